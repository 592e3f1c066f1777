/-
  The runner over a piece of a function, and over loops: from live slots and blocks to live slots and blocks.
-/
import Derived.Test.YtaafimabgcnbaabGreatDoorMZ
set_option linter.all false
namespace Go.Rx
open Go Go.RowKit
section
variable {α : Type}
def putL : List α → Nat → Tr α → Tr α
  | [], _, t => t
  | x :: r, i, t => putL r (i + 1) (t.set i x)
theorem putL_get : ∀ (l : List α) (i : Nat) (t : Tr α) (j : Nat), (∀ k, k < l.length → (t.get (i + k)).isSome) → (putL l i t).get j = if j < i then t.get j else if h : j - i < l.length then some l[j - i] else t.get j
  | [], i, t, j, _ => by simp [putL]
  | x :: r, i, t, j, h => by
    have h0 := h 0 (by simp)
    simp only [Nat.add_zero] at h0
    obtain ⟨z, hz⟩ := Option.isSome_iff_exists.1 h0
    have ih := putL_get r (i + 1) (t.set i x) j (fun k hk => by
      rw [get_set_ne _ (by omega)]
      have := h (k + 1) (by simp; omega)
      rwa [show i + (k + 1) = i + 1 + k by omega] at this)
    simp only [putL]
    rw [ih]
    by_cases h1 : j < i
    · rw [if_pos (by omega), if_pos h1, get_set_ne _ (by omega)]
    · rw [if_neg h1]
      by_cases h2 : j = i
      · subst h2
        rw [if_pos (by omega), get_set_eq _ hz]
        simp
      · rw [if_neg (by omega)]
        by_cases h3 : j - (i + 1) < r.length
        · have h4 : j - i < (x :: r).length := by simp; omega
          have e : j - i = (j - (i + 1)) + 1 := by omega
          simp only [h3, h4, dif_pos]
          congr 1
          simp only [e, List.getElem_cons_succ]
        · have h4 : ¬ (j - i < (x :: r).length) := by simp; omega
          simp only [h3, h4, dif_neg, not_false_eq_true]
          exact get_set_ne _ (by omega)
/-- A list as a tree. -/
def trL (d : α) (l : List α) : Tr α := putL l 0 (Tr.mk 20 l.length d)
theorem trL_get (d : α) (l : List α) (h : l.length < 1048576) (j : Nat) : (trL d l).get j = l[j]? := by
  have h20 : l.length < 2 ^ 20 := by have : (2 : Nat) ^ 20 = 1048576 := by decide
                                     omega
  have hmk := fun i => get_mk d 20 l.length i h20
  unfold trL
  rw [putL_get l 0 _ j (fun k hk => by rw [hmk, if_pos (by omega)]; rfl)]
  simp only [Nat.not_lt_zero, if_false, Nat.sub_zero]
  by_cases hj : j < l.length
  · simp [hj]
  · simp only [hj, dif_neg, not_false_eq_true]
    rw [hmk, if_neg hj]
    simp [hj]
end
/-- Letters, and the blocks that bear numbers. -/
def locOf (L : Lets) (rs : List Nat) : Loc' := ⟨fun b => rs[b]?, L⟩
def memOf (bs : List Blk) : Mem := ⟨trL (.cells [] 0) bs, bs.length, bs.length⟩
theorem all2_get {α β : Type} {R : α → β → Prop} : ∀ {l : List α} {m : List β}, All2 R l m → ∀ (i : Nat) (b : β), m[i]? = some b → ∃ a, l[i]? = some a ∧ R a b
  | _, _, .nil, i, b, h => by simp at h
  | _, _, .cons hab h', 0, c, h => by simp at h; subst h; exact ⟨_, rfl, hab⟩
  | _, _, .cons hab h', i + 1, c, h => by simp at h ⊢; exact all2_get h' i c h
theorem mem_of {W w : World} {L : Lets} {bs : List Blk} {rs : List Nat} (hl : bs.length < 1048576) (hb : Below W.heap.size W w) (hn : ∀ i j r : Nat, rs[i]? = some r → rs[j]? = some r → i = j)
    (h : All2 (fun k r => W.heap.size ≤ r ∧ ∃ o, w.heap[r]? = some o ∧ DB (locOf L rs) k o) bs rs) : MemRel W (locOf L rs) (memOf bs) w where
  below := hb
  dom := fun b r hr => by
    have hr' : rs[b]? = some r := hr
    obtain ⟨k, h1, h2, o, h3, h4⟩ := all2_get h b r hr'
    refine ⟨(List.getElem?_eq_some_iff.1 h1).1, h2, k, o, ?_, h3, h4⟩
    show (trL _ bs).get b = some k
    rw [trL_get _ _ hl]; exact h1
  inj := fun b b' r h1 h2 => hn b b' r h1 h2
  full := fun i hi => by
    show ((trL _ bs).get i).isSome
    rw [trL_get _ _ hl]
    simp
    exact hi

/-! ### What a slot may hold -/
def Slot (x : Value) : Prop := ∃ v, ∀ ρ, DV ρ v x
theorem lit1_of {ρ : Loc'} {c : V1} {x : Value} (h : D1 ρ c x) : ∃ v, ∀ ρ', D1 ρ' v x := by
  cases h with
  | one k => exact ⟨.one (.v x), fun _ => .one (.v k.oneCell)⟩
  | @agg l xs k =>
    refine ⟨.agg (xs.map .v), fun _ => .agg (All2.of_map_mem xs fun y hy => ?_)⟩
    obtain ⟨i, hi⟩ := List.mem_iff_getElem?.1 hy
    obtain ⟨c, -, hc⟩ := all2_get k i y hi
    exact .v hc.oneCell
theorem lits_of {ρ : Loc'} : ∀ {l : List V1} {xs : List Value}, All2 (D1 ρ) l xs → ∃ vs, ∀ ρ', All2 (D1 ρ') vs xs
  | _, _, .nil => ⟨[], fun _ => .nil⟩
  | _, _, .cons h hs => by
    obtain ⟨v, hv⟩ := lit1_of h
    obtain ⟨vs, hvs⟩ := lits_of hs
    exact ⟨v :: vs, fun ρ' => .cons (hv ρ') (hvs ρ')⟩
theorem slot_of {ρ : Loc'} {v : V} {x : Value} (h : DV ρ v x) : Slot x := by
  cases h with
  | s k => obtain ⟨v, hv⟩ := lit1_of k; exact ⟨.s v, fun ρ' => .s (hv ρ')⟩
  | tup k => obtain ⟨vs, hv⟩ := lits_of k; exact ⟨.tup vs, fun ρ' => .tup (hv ρ')⟩

/-! ### Live slots -/
/-- Slot t points to a block of these cells. -/
structure BoxD where
  t : Nat
  l : List C
  e : TypeId
def BoxAt (W : World) (σ : Nat → Int) (a : Act) (w : World) (b : BoxD) (r : Nat) : Prop :=
  a.tmps[b.t]? = some (.pointer (some ⟨r, 0, none⟩)) ∧ W.heap.size ≤ r ∧ w.heap[r]? = some (.cells (b.l.map (valC σ)).toArray b.e (0, 0))
structure LInv (W : World) (N : Nat) (σ : Nat → Int) (bx : List BoxD) (vs : List (Nat × V)) (a : Act) (w : World) : Prop where
  defers : a.defers = []
  size : a.tmps.size = N
  slots : ∀ (t : Nat) (x : Value), a.tmps[t]? = some x → Slot x
  below : Below W.heap.size W w
  vals : ∀ p ∈ vs, a.tmps[p.1]? = some (valV σ p.2)
  boxes : ∃ rs : List Nat, rs.Nodup ∧ All2 (BoxAt W σ a w) bx rs
theorem nodup_get {l : List Nat} (h : l.Nodup) : ∀ i j r : Nat, l[i]? = some r → l[j]? = some r → i = j := by
  induction l with
  | nil => intro i j r h1; simp at h1
  | cons x l ih =>
    rw [List.nodup_cons] at h
    intro i j r h1 h2
    cases i with
    | zero =>
      cases j with
      | zero => rfl
      | succ j =>
        simp only [List.getElem?_cons_zero, Option.some.injEq, List.getElem?_cons_succ] at h1 h2
        subst h1
        exact absurd (List.mem_of_getElem? h2) h.1
    | succ i =>
      cases j with
      | zero =>
        simp only [List.getElem?_cons_zero, Option.some.injEq, List.getElem?_cons_succ] at h1 h2
        subst h2
        exact absurd (List.mem_of_getElem? h1) h.1
      | succ j =>
        simp only [List.getElem?_cons_succ] at h1 h2
        rw [ih h.2 i j r h1 h2]

def boxAt : List BoxD → Nat → Nat → Option Nat
  | [], _, _ => none
  | b :: r, t, i => bif Nat.beq b.t t then some i else boxAt r t (i + 1)
def valAt : List (Nat × V) → Nat → Option V
  | [], _ => none
  | p :: r, t => bif Nat.beq p.1 t then some p.2 else valAt r t
def liveX (bx : List BoxD) (vs : List (Nat × V)) (o : Nat → V) (t : Nat) : V :=
  match boxAt bx t 0 with
  | some i => .s (.one (.ptr i 0))
  | none => match valAt vs t with
    | some v => v
    | none => o t
def slotsX (N : Nat) (bx : List BoxD) (vs : List (Nat × V)) (o : Nat → V) : List V := (List.range N).map (liveX bx vs o)
def blksX (bx : List BoxD) : List Blk := bx.map fun b => .cells b.l b.e
def okIn (bx : List BoxD) (vs : List (Nat × V)) : Bool := bx.all (fun b => b.l.all okC) && vs.all (fun p => okV p.2) && Nat.blt bx.length 1000
theorem boxAt_some : ∀ {bx : List BoxD} {t i k : Nat}, boxAt bx t i = some k → ∃ b, i ≤ k ∧ bx[k - i]? = some b ∧ b.t = t
  | [], _, _, _, h => by cases h
  | b :: r, t, i, k, h => by
    simp only [boxAt] at h
    cases hc : Nat.beq b.t t with
    | true =>
      rw [hc] at h
      simp only [cond_true, Option.some.injEq] at h
      subst h
      exact ⟨b, Nat.le_refl _, by simp, beq_t hc⟩
    | false =>
      rw [hc] at h
      obtain ⟨c, h1, h2, h3⟩ := boxAt_some (bx := r) h
      refine ⟨c, by omega, ?_, h3⟩
      rw [show k - i = (k - (i + 1)) + 1 by omega]
      simpa using h2
theorem valAt_some : ∀ {vs : List (Nat × V)} {t : Nat} {v : V}, valAt vs t = some v → (t, v) ∈ vs
  | [], _, _, h => by cases h
  | p :: r, t, v, h => by
    simp only [valAt] at h
    cases hc : Nat.beq p.1 t with
    | true =>
      rw [hc] at h
      simp only [cond_true, Option.some.injEq] at h
      subst h
      have := beq_t hc
      subst this
      exact List.mem_cons_self ..
    | false =>
      rw [hc] at h
      exact List.mem_cons_of_mem _ (valAt_some h)
theorem all2_get' {α β : Type} {R : α → β → Prop} : ∀ {l : List α} {m : List β}, All2 R l m → ∀ (i : Nat) (a : α), l[i]? = some a → ∃ b, m[i]? = some b ∧ R a b
  | _, _, .nil, i, b, h => by simp at h
  | _, _, .cons hab h', 0, c, h => by simp at h; subst h; exact ⟨_, rfl, hab⟩
  | _, _, .cons hab h', i + 1, c, h => by simp at h ⊢; exact all2_get' h' i c h
/-- From live slots to the runner's state. -/
theorem inv_rel {W : World} {N : Nat} {L : Lets} {bx : List BoxD} {vs : List (Nat × V)} {a : Act} {w : World} (hN : N < 1000000) (h : LInv W N L.num bx vs a w) (hok : okIn bx vs = true) :
    ∃ (rs : List Nat) (o : Nat → V), StRel W (locOf L rs) ⟨trL (.tup []) (slotsX N bx vs o), memOf (blksX bx)⟩ a w := by
  simp only [okIn, Bool.and_eq_true] at hok
  obtain ⟨⟨ok1, ok2⟩, ok3⟩ := hok
  have ok3 : bx.length < 1000 := Nat.blt_eq.mp ok3
  obtain ⟨rs, hnd, hbx⟩ := h.boxes
  have hsl : ∀ t : Nat, ∃ v : V, ∀ x : Value, a.tmps[t]? = some x → ∀ ρ, DV ρ v x := fun t => by
    cases ht : a.tmps[t]? with
    | none => exact ⟨.tup [], fun x hx => by cases hx⟩
    | some x =>
      obtain ⟨v, hv⟩ := h.slots t x ht
      refine ⟨v, fun y hy ρ => ?_⟩
      simp only [Option.some.injEq] at hy
      subst hy
      exact hv ρ
  obtain ⟨o, ho⟩ := Classical.axiomOfChoice hsl
  have hlen : (slotsX N bx vs o).length = N := by simp [slotsX]
  have hget : ∀ t, (trL (V.tup []) (slotsX N bx vs o)).get t = if t < N then some (liveX bx vs o t) else none := fun t => by
    rw [trL_get _ _ (by rw [hlen]; omega)]
    unfold slotsX
    by_cases ht : t < N
    · rw [if_pos ht]; simp [ht]
    · rw [if_neg ht]; simp; omega
  refine ⟨rs, o, ⟨fun t v hv => ?_, fun t hv => ?_, h.defers, ?_⟩⟩
  · have hv : (trL (V.tup []) (slotsX N bx vs o)).get t = some v := hv
    rw [hget] at hv
    split at hv
    · rename_i ht
      simp only [Option.some.injEq] at hv
      subst hv
      unfold liveX
      split
      · rename_i i hi
        obtain ⟨b, h1, h2, h3⟩ := boxAt_some hi
        obtain ⟨r, h4, h5⟩ := all2_get' hbx _ _ h2
        rw [Nat.sub_zero] at h4
        exact ⟨_, h3 ▸ h5.1, .s (.one (.ptr h4))⟩
      · split
        · rename_i v hv
          have hm := valAt_some hv
          exact ⟨_, h.vals _ hm, okV_val (List.all_eq_true.1 ok2 _ hm)⟩
        · have hx : t < a.tmps.size := by rw [h.size]; exact ht
          exact ⟨_, Array.getElem?_eq_getElem hx, ho t _ (Array.getElem?_eq_getElem hx) _⟩
    · cases hv
  · have hv : (trL (V.tup []) (slotsX N bx vs o)).get t = none := hv
    rw [hget] at hv
    split at hv
    · cases hv
    · rename_i ht
      rw [Array.getElem?_eq_none (by rw [h.size]; omega)]
  · refine mem_of (by simp [blksX]; omega) h.below (nodup_get hnd) ?_
    have hok1 := List.all_eq_true.1 ok1
    clear hget hlen ho hsl hnd
    have key : ∀ {bx : List BoxD} {rs' : List Nat}, (∀ b ∈ bx, b.l.all okC = true) → All2 (BoxAt W L.num a w) bx rs' → All2 (fun k r => W.heap.size ≤ r ∧ ∃ o, w.heap[r]? = some o ∧ DB (locOf L rs) k o) (blksX bx) rs' := by
      intro bx
      induction bx with
      | nil => intro rs' _ hb; cases hb; exact .nil
      | cons b bx ih =>
        intro rs' hk hb
        cases hb with
        | cons h1 h2 =>
          refine .cons ⟨h1.2.1, _, h1.2.2, ?_⟩ (ih (fun c hc => hk c (List.mem_cons_of_mem _ hc)) h2)
          exact .cells (All2.of_ok (fun _ => okC_val (ρ := locOf L rs)) (hk b (List.mem_cons_self ..)))
    exact key hok1 hbx

/-! ### What the runner's state says -/
def ptrOf (st : St) (t : Nat) : Option Nat :=
  match st.tm.get t with
  | some (.s (.one (.ptr b o))) => bif Nat.beq o 0 then some b else none
  | _ => none
def boxOk (st : St) (b : BoxD) : Bool :=
  match ptrOf st b.t with
  | some k => match st.m.hp.get k with
    | some (.cells l e) => eqL eqC l b.l && Nat.beq e b.e
    | _ => false
  | none => false
def apart (st : St) : List BoxD → Bool
  | [] => true
  | b :: r => r.all (fun c => match ptrOf st b.t, ptrOf st c.t with | some i, some j => !(Nat.beq i j) | _, _ => false) && apart st r
def lastOf (st : St) (N : Nat) : Bool :=
  match N with
  | 0 => true
  | n + 1 => (st.tm.get n).isSome
def endsIn (st : St) (N : Nat) (bx : List BoxD) (vs : List (Nat × V)) : Bool :=
  bx.all (boxOk st) && apart st bx && vs.all (fun p => match st.tm.get p.1 with | some v => eqV v p.2 | none => false) && (st.tm.get N).isNone && lastOf st N
theorem ptr_of {W : World} {ρ : Loc'} {st : St} {a : Act} {w : World} (h : StRel W ρ st a w) {t b : Nat} (hp : ptrOf st t = some b) : ∃ r, ρ b = some r ∧ a.tmps[t]? = some (.pointer (some ⟨r, 0, none⟩)) := by
  unfold ptrOf at hp
  split at hp
  · rename_i b' o hg
    cases hc : Nat.beq o 0 with
    | false => rw [hc] at hp; cases hp
    | true =>
      rw [hc] at hp
      simp only [cond_true, Option.some.injEq] at hp
      subst hp
      have := beq_t hc; subst this
      obtain ⟨x, h1, h2⟩ := h.some _ _ hg
      cases h2 with
      | s k => cases k with
        | one k => cases k with
          | ptr hr => exact ⟨_, hr, h1⟩
  · cases hp
theorem rel_inv {W : World} {ρ : Loc'} {st : St} {N : Nat} {bx : List BoxD} {vs : List (Nat × V)} {a : Act} {w : World} (h : StRel W ρ st a w) (he : endsIn st N bx vs = true) (hok : okIn bx vs = true) : LInv W N ρ.val.num bx vs a w := by
  simp only [okIn, Bool.and_eq_true] at hok
  obtain ⟨⟨ok1, ok2⟩, -⟩ := hok
  simp only [endsIn, Bool.and_eq_true] at he
  obtain ⟨⟨⟨⟨e1, e2⟩, e3⟩, e4⟩, e5⟩ := he
  refine ⟨h.defers, ?_, fun t x hx => ?_, h.mem.below, fun p hp => ?_, ?_⟩
  · have h1 : a.tmps.size ≤ N := by
      have := h.none N (by cases hh : st.tm.get N with | none => rfl | some _ => rw [hh] at e4; cases e4)
      exact Array.getElem?_eq_none_iff.1 this
    cases N with
    | zero => omega
    | succ n =>
      obtain ⟨v, hv⟩ := Option.isSome_iff_exists.1 (show (st.tm.get n).isSome = true from e5)
      obtain ⟨x, hx, -⟩ := h.some n v hv
      have := (Array.getElem?_eq_some_iff.1 hx).1
      omega
  · cases hg : st.tm.get t with
    | none => rw [h.none t hg] at hx; cases hx
    | some v =>
      obtain ⟨y, h1, h2⟩ := h.some t v hg
      rw [h1] at hx
      simp only [Option.some.injEq] at hx
      subst hx
      exact slot_of h2
  · have := List.all_eq_true.1 e3 p hp
    split at this
    · rename_i v hv
      obtain ⟨x, h1, h2⟩ := h.some _ _ hv
      rw [eqV_eq this] at h2
      rw [h1, okV_inv (List.all_eq_true.1 ok2 p hp) h2]
    · cases this
  · have key : ∀ (bx : List BoxD), (∀ b ∈ bx, b.l.all okC = true) → (∀ b ∈ bx, boxOk st b = true) → apart st bx = true → ∃ rs : List Nat, rs.Nodup ∧ All2 (BoxAt W ρ.val.num a w) bx rs ∧ ∀ r ∈ rs, ∃ b ∈ bx, ∃ k, ptrOf st b.t = some k ∧ ρ k = some r := by
      intro bx
      induction bx with
      | nil => intro _ _ _; exact ⟨[], List.nodup_nil, .nil, fun r hr => by cases hr⟩
      | cons b bx ih =>
        intro hk hb ha
        simp only [apart, Bool.and_eq_true] at ha
        obtain ⟨rs, r1, r2, r3⟩ := ih (fun c hc => hk c (List.mem_cons_of_mem _ hc)) (fun c hc => hb c (List.mem_cons_of_mem _ hc)) ha.2
        have hbb := hb b (List.mem_cons_self ..)
        unfold boxOk at hbb
        split at hbb
        · rename_i k hp
          split at hbb
          · rename_i l e hg
            simp only [Bool.and_eq_true] at hbb
            have q1 := eqL_eq (fun _ _ => eqC_eq) hbb.1
            have q2 := beq_t hbb.2
            subst q1; subst q2
            obtain ⟨r, hr, hx⟩ := ptr_of h hp
            obtain ⟨-, m2, k', o, m3, m4, m5⟩ := h.mem.dom k r hr
            rw [hg] at m3
            simp only [Option.some.injEq] at m3
            subst m3
            refine ⟨r :: rs, List.nodup_cons.2 ⟨fun hm => ?_, r1⟩, .cons ⟨hx, m2, ?_⟩ r2, fun q hq => ?_⟩
            · obtain ⟨c, c1, k2, c2, c3⟩ := r3 r hm
              have := List.all_eq_true.1 ha.1 c c1
              rw [hp, c2] at this
              have hkk := h.mem.inj _ _ _ hr c3
              subst hkk
              simp at this
            · cases m5 with
              | cells m6 =>
                rw [m4, All2.inv_ok (f := valC ρ.val.num) (fun _ _ h hx => okC_inv h hx) (hk b (List.mem_cons_self ..)) m6]
            · rcases List.mem_cons.1 hq with rfl | hq
              · exact ⟨b, List.mem_cons_self .., k, hp, hr⟩
              · obtain ⟨c, c1, c2⟩ := r3 q hq
                exact ⟨c, List.mem_cons_of_mem _ c1, c2⟩
          · cases hbb
        · cases hbb
    obtain ⟨rs, r1, r2, -⟩ := key bx (List.all_eq_true.1 ok1) (List.all_eq_true.1 e1) e2
    exact ⟨rs, r1, r2⟩
/-- Live slots whose values are alike. -/
theorem LInv.turn {W : World} {N : Nat} {σ σ' : Nat → Int} {bx bx' : List BoxD} {vs vs' : List (Nat × V)} {a : Act} {w : World} (h : LInv W N σ bx vs a w) (hb : All2 (fun b c => c.t = b.t ∧ c.e = b.e ∧ c.l.map (valC σ') = b.l.map (valC σ)) bx bx') (hv : ∀ p ∈ vs', ∃ q ∈ vs, q.1 = p.1 ∧ valV σ' p.2 = valV σ q.2) : LInv W N σ' bx' vs' a w := by
  refine ⟨h.defers, h.size, h.slots, h.below, fun p hp => ?_, ?_⟩
  · obtain ⟨q, h1, h2, h3⟩ := hv p hp
    rw [h3, ← h2]; exact h.vals q h1
  · obtain ⟨rs, r1, r2⟩ := h.boxes
    refine ⟨rs, r1, ?_⟩
    clear hv r1
    have key : ∀ {bx bx' : List BoxD} {rs : List Nat}, All2 (fun b c => c.t = b.t ∧ c.e = b.e ∧ c.l.map (valC σ') = b.l.map (valC σ)) bx bx' → All2 (BoxAt W σ a w) bx rs → All2 (BoxAt W σ' a w) bx' rs := by
      intro bx
      induction bx with
      | nil => intro bx' rs h1 h2; cases h1; cases h2; exact .nil
      | cons b bx ih =>
        intro bx' rs h1 h2
        cases h1 with
        | cons p1 p2 =>
          cases h2 with
          | cons q1 q2 =>
            refine .cons ?_ (ih p2 q2)
            unfold BoxAt at q1 ⊢
            rw [p1.1, p1.2.1, p1.2.2]; exact q1
    exact key hb r2

/-! ### Pieces -/
def eqEx : Ex → Ex → Bool
  | .normal, .normal => true
  | .ret, .ret => true
  | .exit i, .exit j => Nat.beq i j
  | _, _ => false
theorem eqEx_eq {x y : Ex} (h : eqEx x y = true) : x = y := by
  cases x <;> cases y <;> first
    | rfl
    | (cases h; done)
    | exact congrArg _ (beq_t h)
/-- A piece of a function with N slots, from live slots to live slots. -/
def fragX (E : Env) (n : Nat) (c : Code) (N : Nat) (bx : List BoxD) (vs : List (Nat × V)) (o : Nat → V) (ex : Ex) (bx' : List BoxD) (vs' : List (Nat × V)) : Bool :=
  okIn bx vs && okIn bx' vs' && Nat.blt N 1000000 && match codeX E n c ⟨trL (.tup []) (slotsX N bx vs o), memOf (blksX bx)⟩ with
    | some (ex', st) => eqEx ex' ex && endsIn st N bx' vs'
    | none => false
theorem frag {E : Env} {W : World} (hE : EnvOk E W) {n : Nat} {c : Code} {N : Nat} {bx bx' : List BoxD} {vs vs' : List (Nat × V)} {ex : Ex} (h : ∀ o, fragX E n c N bx vs o ex bx' vs' = true) {a : Act} {w : World} (hI : LInv W N E.val.num bx vs a w) {Q : Exit → Act → World → Prop}
    (hQ : ∀ a' w', LInv W N E.val.num bx' vs' a' w' → Q (exOf ex) a' w') : c.wp E.P Q a w := by
  have h0 := h fun _ => .tup []
  simp only [fragX, Bool.and_eq_true] at h0
  obtain ⟨⟨⟨k1, k2⟩, k3⟩, -⟩ := h0
  obtain ⟨rs, o, hrel⟩ := inv_rel (Nat.blt_eq.mp k3) hI k1
  have h1 := h o
  simp only [fragX, Bool.and_eq_true] at h1
  obtain ⟨-, h1⟩ := h1
  split at h1
  · rename_i ex' st hc
    simp only [Bool.and_eq_true] at h1
    have := eqEx_eq h1.1
    subst this
    refine ((code_ok hE n) c _ _ st hc).2 (locOf E.val rs) a w rfl hrel Q fun ρ' a' w' q1 _ q3 => ?_
    have := rel_inv q3 h1.2 k2
    rw [q1.val] at this
    exact hQ a' w' this
  · cases h1
/-- The end of a function, from live slots. -/
def fragE (E : Env) (n : Nat) (c : Code) (fn : Func) (bx : List BoxD) (vs : List (Nat × V)) (o : Nat → V) (v : V) : Bool :=
  okIn bx vs && okV v && Nat.blt fn.ntmps 1000000 && match codeX E n c ⟨trL (.tup []) (slotsX fn.ntmps bx vs o), memOf (blksX bx)⟩ with
    | some (.ret, st) => match resX E.P st fn.results.toList with
      | some l => eqV (packX l) v
      | none => false
    | _ => false
theorem frag_end {E : Env} {W : World} (hE : EnvOk E W) {n : Nat} {c : Code} {fn : Func} {bx : List BoxD} {vs : List (Nat × V)} {v : V} (h : ∀ o, fragE E n c fn bx vs o v = true) {a : Act} {w : World} (hI : LInv W fn.ntmps E.val.num bx vs a w) {R : Ending → World → Prop} {Q : Exit → Act → World → Prop}
    (hR : ∀ w', Below W.heap.size W w' → R (.returned (valV E.val.num v)) w') (h1 : ∀ a w, bodyPost E.P fn R .ret a w → Q .ret a w) : c.wp E.P Q a w := by
  have h0 := h fun _ => .tup []
  simp only [fragE, Bool.and_eq_true] at h0
  obtain ⟨⟨⟨k1, k2⟩, k3⟩, -⟩ := h0
  obtain ⟨rs, o, hrel⟩ := inv_rel (Nat.blt_eq.mp k3) hI k1
  have h3 := h o
  simp only [fragE, Bool.and_eq_true] at h3
  obtain ⟨-, h3⟩ := h3
  split at h3
  · rename_i st hc
    split at h3
    · rename_i l hl
      have := eqV_eq h3
      subst this
      refine ((code_ok hE n) c _ _ st hc).2 (locOf E.val rs) a w rfl hrel Q fun ρ' a' w' q1 _ q3 => ?_
      obtain ⟨x, hx1, hx2⟩ := results_sound (P := E.P) q3 hl
      have hx := okV_inv k2 hx1
      rw [q1.val] at hx
      subst hx
      exact h1 _ _ ⟨q3.defers, _, hx2, hR w' q3.mem.below⟩
    · cases h3
  · cases h3
/-- A function's beginning. -/
def argVals : List V1 → Nat → List (Nat × V)
  | [], _ => []
  | x :: r, i => (i, .s x) :: argVals r (i + 1)
def enterOk (fn : Func) (l : List V1) : Bool :=
  okIn [] (argVals l 0) && l.all ok1 && match enterX fn l with
    | some tm => endsIn ⟨tm, ⟨.e, 0, 0⟩⟩ fn.ntmps [] (argVals l 0)
    | none => false
theorem enter_inv {P : Program} {f : FuncId} {fn : Func} {body : Code} (hf : P.funcs[f]? = some fn) (hb : fn.body = some body) {l : List V1} (h : enterOk fn l = true) (σ : Nat → Int) {w : World} {R : Ending → World → Prop}
    (hw : ∀ a, LInv w fn.ntmps σ [] (argVals l 0) a w → body.wp P (bodyPost P fn R) a w) : Calls P f (l.map (val1 σ)).toArray w R := by
  simp only [enterOk, Bool.and_eq_true] at h
  obtain ⟨⟨k1, k2⟩, h⟩ := h
  split at h
  · rename_i tm ht
    have hx : All2 (D1 (noLoc (lets0 σ))) l (l.map (val1 σ)) := All2.of_ok (fun _ => ok1_val (ρ := noLoc (lets0 σ))) k2
    have := enter_sound ht hx (MemRel.empty w (lets0 σ))
    exact calls_of_wp hf hb (hw _ (rel_inv this h k1))
  · cases h
/-- A loop, by a measure of what its head knows. -/
theorem loop_ind {P : Program} {c : Code} {Q : Exit → Act → World → Prop} {α : Type} (I : α → Act → World → Prop) (μ : α → Nat) (round : ∀ x a w, I x a w → c.wp P (Exit.then (fun a' w' => ∃ y, I y a' w' ∧ μ y < μ x) Q) a w) {x : α} {a : Act} {w : World} (h : I x a w) : (Code.loop c).wp P Q a w := by
  have key : ∀ n x a w, I x a w → μ x < n → Code.rounds P c Q n a w := by
    intro n
    induction n with
    | zero => intro x a w _ h; omega
    | succ n ih =>
      intro x a w hI hn
      rw [rounds_succ]
      refine Code.wp_mono (fun e a' w' hq => ?_) (round x a w hI)
      cases e with
      | normal =>
        obtain ⟨y, h1, h2⟩ := hq
        exact ih y a' w' h1 (by omega)
      | _ => exact hq
  exact wp_loop_rounds (μ x + 1) (key _ x a w h (Nat.lt_succ_self _))
end Go.Rx
