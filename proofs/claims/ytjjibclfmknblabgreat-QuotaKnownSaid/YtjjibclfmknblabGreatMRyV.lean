/-
  THE RUNNER: ranges over maps whose rounds leave no trace: each round, whichever entry it is at, is run from the loop's head; it ends as it began, but for what it laid and for slots that it wrote.
-/
import Derived.Test.YtjjibclfmknblabGreatMRM
import Derived.Maps.RangeRun
set_option linter.all false
namespace Go.Ry
open Go Go.RowKit
open Go.ChangeMaps (setBlock)

def dstsO : List Oper → List Nat → List Nat
  | [], l => l
  | o :: r, l => dstsO r (match o.dst with | some t => t :: l | none => l)
/-- The slots that a code's regions write. -/
def dstsC : Code → List Nat → List Nat
  | .seq a b, l => dstsC a (dstsC b l)
  | .cond _ a b, l => dstsC a (dstsC b l)
  | .block _ b, l => dstsC b l
  | .loop b, l => dstsC b l
  | .scope b, l => dstsC b l
  | .region _ ops _, l => dstsO ops.toList l
  | .rangeFunc _ ps a b, l => ps.toList ++ dstsC a (dstsC b l)
  | _, l => l
/-- Nothing but truth values is kept. -/
def keepB : V → V
  | .s (.one (.v (.bool b))) => .s (.one (.v (.bool b)))
  | _ => .tup []
def eraseT : List Nat → Tr V → Tr V
  | [], t => t
  | i :: r, t => eraseT r (match t.get i with | some v => t.set i (keepB v) | none => t)
def eqT : Tr V → Tr V → Bool
  | .e, .e => true
  | .n l x r, .n l' x' r' => eqDV x x' && eqT l l' && eqT r r'
  | _, _ => false
theorem eqT_eq : ∀ {t t' : Tr V}, eqT t t' = true → t = t'
  | .e, .e, _ => rfl
  | .n l x r, .n l' x' r', h => by
    simp only [eqT, Bool.and_eq_true] at h
    rw [eqDV_eq _ _ h.1.1, eqT_eq h.1.2, eqT_eq h.2]
  | .e, .n _ _ _, h => by cases h
  | .n _ _ _, .e, h => by cases h
def allB : Tr Blk → Bool
  | .e => true
  | .n l x r => (match x with | .mit _ _ (.at _ _) => false | _ => true) && allB l && allB r
theorem allB_get : ∀ {t : Tr Blk}, allB t = true → ∀ i b s n c, t.get i ≠ some (.mit b s (.at n c))
  | .e, _, i, b, s, n, c => by simp
  | .n l x r, h, i, b, s, n, c => by
    simp only [allB, Bool.and_eq_true] at h
    rcases num_cases i with rfl | ⟨k, rfl⟩ | ⟨k, rfl⟩
    · rw [get_zero]
      intro e
      simp only [Option.some.injEq] at e
      subst e
      cases h.1.1
    · rw [get_odd]; exact allB_get h.1.2 k b s n c
    · rw [get_even]; exact allB_get h.2 k b s n c

section
variable {ρ ρ' σ : Loc'}
theorem keepB_sound {v : V} {x : Value} (h : DV ρ v x) : DV ρ (keepB v) x := by
  unfold keepB
  split
  · exact h
  · rename_i hno
    refine .any fun b hb => ?_
    cases h with
    | s k => cases k with
      | one k =>
        generalize hc : V.s (V1.one _) = v at hno
        cases k with
        | v _ => subst hb; exact hno b hc.symm
        | opq => exact ρ.val.nb _ _ hb
        | _ => cases hb
      | agg k => cases hb
    | tup k => cases hb
    | any k => exact k b hb
theorem erase_sound : ∀ {l : List Nat} {tm : Tr V} {tmps : Array Value}, TmRel ρ tm tmps → TmRel ρ (eraseT l tm) tmps
  | [], _, _, h => h
  | i :: r, tm, tmps, h => by
    simp only [eraseT]
    refine erase_sound ?_
    split
    · rename_i v hv
      obtain ⟨x, hx, hd⟩ := h.some i v hv
      have := h.set i (keepB_sound hd)
      have e : tmps.setIfInBounds i x = tmps := by
        apply Array.ext_getElem?
        intro j
        by_cases hj : i = j
        · subst hj
          have hlt : i < tmps.size := (Array.getElem?_eq_some_iff.1 hx).1
          rw [Array.getElem?_setIfInBounds_self_of_lt hlt, hx]
        · rw [Array.getElem?_setIfInBounds_ne hj]
      rw [e] at this
      exact this
    · exact h

/-! ### What is known under less -/
theorem All2.back2 {α β : Type} {R S : α → β → Prop} (h : ∀ a b c, R a b → S a c → S a b) : ∀ {l : List α} {m n : List β}, All2 R l m → All2 S l n → All2 S l m
  | _, _, _, .nil, .nil => .nil
  | _, _, _, .cons x y, .cons x' y' => .cons (h _ _ _ x x') (All2.back2 h y y')
/-- What a value is under ρ', it is under ρ, if all it names lies under ρ. -/
theorem DC.back (hE : Ext ρ ρ') {c : C} {x y : Value} (h : DC ρ' c x) (k : DC ρ c y) : DC ρ c x := by
  cases h with
  | v q => exact .v q
  | ptr q => cases k with | ptr q' => rw [hE.loc _ _ q'] at q; cases q; exact .ptr q'
  | sl q => cases k with | sl q' => rw [hE.loc _ _ q'] at q; cases q; exact .sl q'
  | slf q q1 q2 => cases k with | slf q' _ _ => rw [hE.loc _ _ q'] at q; cases q; exact .slf q' q1 (by rw [← hE.sz _ _ q']; exact q2)
  | emp => exact .emp
  | fn q1 q2 =>
    cases k with
    | fn q1' q2' =>
      refine .fn (All2.back2 (R := FstR ρ') (S := FstR ρ) ?_ q1 q1') (All2.back2 (R := fun b r => ρ' b = some r) (S := fun b r => ρ b = some r) ?_ q2 q2')
      · rintro p x y ⟨r, h1, h2⟩ ⟨r', h3, h4⟩
        rw [hE.loc _ _ h3] at h1; cases h1
        exact ⟨_, h3, h2⟩
      · intro b r r' h1 h2
        rw [hE.loc _ _ h2] at h1; cases h1
        exact h2
  | yl q => cases k with | yl q' => rw [hE.loc _ _ q'] at q; cases q; exact .yl q'
  | mp q => cases k with | mp q' => rw [hE.loc _ _ q'] at q; cases q; exact .mp q'
  | ex => rw [hE.val]; exact .ex
  | opq => rw [hE.val]; exact .opq
theorem D1.back (hE : Ext ρ ρ') {c : V1} {x y : Value} (h : D1 ρ' c x) (k : D1 ρ c y) : D1 ρ c x := by
  cases h with
  | one h => cases k with | one k => exact .one (DC.back hE h k)
  | agg h => cases k with | agg k => exact .agg (All2.back2 (R := DC ρ') (S := DC ρ) (fun _ _ _ => DC.back hE) h k)
theorem DV.back (hE : Ext ρ ρ') {c : V} {x y : Value} (h : DV ρ' c x) (k : DV ρ c y) : DV ρ c x := by
  cases h with
  | s h => cases k with | s k => exact .s (D1.back hE h k)
  | any h => exact .any h
  | tup h =>
    cases k with
    | tup k => exact .tup (All2.back2 (R := D1 ρ') (S := D1 ρ) (fun _ _ _ => D1.back hE) h k)
    | any k => cases h; exact .tup .nil
theorem TmRel.back (hE : Ext ρ ρ') {tm : Tr V} {t t' : Array Value} (h : TmRel ρ' tm t) (k : TmRel ρ tm t') : TmRel ρ tm t := by
  refine ⟨fun i v hv => ?_, h.none⟩
  obtain ⟨x, h1, h2⟩ := h.some i v hv
  obtain ⟨y, _, k2⟩ := k.some i v hv
  exact ⟨x, h1, h2.back hE k2⟩
theorem DB.back (hE : Ext ρ ρ') {c : Blk} {x y : Obj} (h : DB ρ' c x) (k : DB ρ c y) : DB ρ c x := by
  cases h with
  | cells h => cases k with | cells k => exact .cells (All2.back2 (R := DC ρ') (S := DC ρ) (fun _ _ _ => DC.back hE) h k)
  | gone => exact .gone
  | dfr => exact .dfr
  | loop h => cases k with | loop k => exact .loop (h.back hE k)
  | map h => cases k with | map k => exact .map (All2.back2 (R := EntR ρ') (S := EntR ρ) (fun _ _ _ h k => ⟨h.1, h.2.1, h.2.2.back hE k.2.2⟩) h k)
  | mit h1 h2 h3 => cases k with | mit k1 _ _ => rw [hE.loc _ _ k1] at h1; cases h1; exact .mit k1 h2 (by rw [← hE.it]; exact h3)
  | iter => exact .iter

/-- Another iterator's history. -/
def Loc'.seeing (ρ : Loc') (s : Array Nat) : Loc' := ⟨ρ.loc, ρ.sz, ρ.val, s⟩
theorem DC.seeing (s : Array Nat) : ∀ c x, DC ρ c x → DC (ρ.seeing s) c x := fun c x h => by
  cases h with
  | v q => exact .v q
  | ptr q => exact .ptr q
  | sl q => exact .sl q
  | slf q q1 q2 => exact .slf q q1 q2
  | emp => exact .emp
  | fn q1 q2 => exact .fn (q1.mono fun _ _ h => h) q2
  | yl q => exact .yl q
  | mp q => exact .mp q
  | ex => exact @DC.ex (ρ.seeing s) _ _
  | opq => exact @DC.opq (ρ.seeing s) _
theorem D1.seeing (s : Array Nat) : ∀ c x, D1 ρ c x → D1 (ρ.seeing s) c x := fun c x h => by
  cases h with
  | one k => exact .one (k.seeing s)
  | agg k => exact .agg (k.mono (DC.seeing s))
theorem DV.seeing (s : Array Nat) {c : V} {x : Value} (h : DV ρ c x) : DV (ρ.seeing s) c x := by
  cases h with
  | s k => exact .s (k.seeing s)
  | tup k => exact .tup (k.mono (D1.seeing s))
  | any k => exact .any k
theorem TmRel.seeing (s : Array Nat) {tm : Tr V} {t : Array Value} (h : TmRel ρ tm t) : TmRel (ρ.seeing s) tm t :=
  ⟨fun i v hv => let ⟨x, h1, h2⟩ := h.some i v hv; ⟨x, h1, h2.seeing s⟩, h.none⟩
theorem DB.seeing (s : Array Nat) {c : Blk} {x : Obj} (hno : ∀ b e n q, c ≠ .mit b e (.at n q)) (h : DB ρ c x) : DB (ρ.seeing s) c x := by
  cases h with
  | cells k => exact .cells (k.mono (DC.seeing s))
  | gone => exact .gone
  | dfr => exact .dfr
  | loop k => exact .loop (k.seeing s)
  | map k => exact .map (k.mono fun _ _ h => ⟨h.1, h.2.1, h.2.2.seeing s⟩)
  | iter => exact .iter
  | mit h1 h2 h3 =>
    refine .mit h1 h2 ?_
    rename_i md _
    cases md with
    | fresh => exact h3
    | any => exact h3
    | «at» n q => exact absurd rfl (hno _ _ _ _)
theorem MemRel.seeing {W : Base} {m : Mem} {w : World} (s : Array Nat) (h : MemRel W ρ m w) (hno : allB m.hp = true) : MemRel W (ρ.seeing s) m w :=
  ⟨h.below, fun b r hb => by
    obtain ⟨h1, h2, k, o, h3, h4, h5⟩ := h.dom b r hb
    exact ⟨h1, h2, k, o, h3, h4, h5.seeing s fun b' e n q e' => allB_get hno b b' e n q (by rw [h3, e'])⟩, h.inj, h.size, h.full⟩
theorem StRel.seeing {W : Base} {st : St} {a : Act} {w : World} (s : Array Nat) (h : StRel W ρ st a w) (hno : allB st.m.hp = true) : StRel W (ρ.seeing s) st a w :=
  ⟨fun t v hv => let ⟨x, h1, h2⟩ := h.some t v hv; ⟨x, h1, h2.seeing s⟩, h.none, h.defers, h.mem.seeing s hno⟩
theorem seeing_self : ρ.seeing ρ.it = ρ := rfl
theorem seeing_seeing (s t : Array Nat) : (ρ.seeing s).seeing t = ρ.seeing t := rfl
end

/-! ### The entries that are left -/
theorem left_size (es : Array MapEntry) (seen : Array Nat) : (leftOf es seen).size = ((es.toList.map (·.born)).filter fun b => !seen.contains b).length := by
  unfold leftOf
  rw [← Array.length_toList, Array.toList_filter, List.filter_map, List.length_map]
  rfl
theorem ents_born {ρ : Loc'} : ∀ {l : List (Nat × Value × V1)} {es : List MapEntry}, All2 (EntR ρ) l es → es.map (·.born) = l.map (·.1)
  | _, _, .nil => rfl
  | _, _, .cons h k => by simp only [List.map_cons, ents_born k, h.1]
theorem ents_mem {ρ : Loc'} : ∀ {l : List (Nat × Value × V1)} {es : List MapEntry}, All2 (EntR ρ) l es → ∀ m ∈ es, ∃ e ∈ l, EntR ρ e m
  | _, _, .nil, m, h => by simp at h
  | _, _, .cons h k, m, hm => by
    rcases List.mem_cons.1 hm with rfl | hm
    · exact ⟨_, by simp, h⟩
    · obtain ⟨e, h1, h2⟩ := ents_mem k m hm
      exact ⟨e, by simp [h1], h2⟩

/-! ### The loop -/
section
variable (cd : Code → St → Option (Ex × St))
/-- A round at the entry e, from the head: the slots behind it. -/
def entX (rest : Code) (dl : List Nat) (nx more bi bm since c : Nat) (tm : Tr V) (m : Mem) (ds : List Nat) (e : Nat × Value × V1) : Option (Tr V) :=
  match cd rest ⟨(tm.set nx (.tup [.one (.v (.bool true)), .one (.v e.2.1), e.2.2])).set more (.s (.one (.v (.bool true)))), ⟨m.hp.set bi (.mit bm since (.at e.1 c)), m.hn, m.hn⟩, ds⟩ with
  | some (.normal, st') => bif Nat.ble m.hn st'.m.wr && eqL Nat.beq st'.ds ds then some (eraseT dl st'.tm) else none
  | _ => none
def goesTo (h : Tr V) : Option (Tr V) → Bool
  | some t => eqT t h
  | none => false
/-- Slot it holds the iterator. -/
def holdsIt (tm : Tr V) (it bi : Nat) : Bool :=
  match tm.get it with
  | some (.s (.one (.ptr b 0))) => Nat.beq b bi
  | _ => false
/-- Each slot holds what it held, or nothing with an address. -/
def near : Tr V → Tr V → Bool
  | .e, .e => true
  | .n l x r, .n l' x' r' => (eqDV x x' || bareV x') && near l l' && near r r'
  | _, _ => false
def hasT (tm : Tr V) (t : Nat) : Bool :=
  match tm.get t with
  | some _ => true
  | none => false
def mapRunX (rest : Code) (nx more it bi bm since c : Nat) (e0 : Nat × Value × V1) (l : List (Nat × Value × V1)) (st : St) : Option (Ex × St) :=
  let dl := nx :: more :: dstsC rest []
  let h0 := eraseT dl st.tm
  let m := st.m.upd bi (.mit bm since .any)
  match entX cd rest dl nx more bi bm since c h0 m st.ds e0 with
  | some h1 =>
    bif (e0 :: l).all (fun e => Nat.blt e.1 since && e.2.1.oneCell' && goesTo h1 (entX cd rest dl nx more bi bm since c h0 m st.ds e) && goesTo h1 (entX cd rest dl nx more bi bm since c h1 m st.ds e))
      && allB m.hp && holdsIt h0 it bi && holdsIt h1 it bi && near h0 h1 && Nat.ble since c && hasT h0 nx && hasT h1 nx then
      (match cd rest ⟨(h1.set nx (.tup [.one (.v (.bool false))])).set more (.s (.one (.v (.bool false)))), m, st.ds⟩ with
      | some (.normal, _) => none
      | r => r)
    else none
  | none => none
def mapLoopX (b : Code) (st : St) : Option (Ex × St) :=
  match b with
  | .seq (.region _ ops false) rest => match ops.toList with
    | [⟨some nx, .next (.tmp it) false, _, _, _, none⟩, ⟨some more, .extract (.tmp nx') 0, _, _, _, none⟩] =>
      bif Nat.beq nx nx' && !(Nat.beq nx more) && !(Nat.beq nx it) then
      (match st.evc (.tmp it) with
      | some (.ptr bi 0) => match st.m.hp.get bi with
        | some (.mit bm since .fresh) => match st.m.hp.get bm with
          | some (.map (e0 :: l) c) => mapRunX cd rest nx more it bi bm since c e0 l st
          | _ => none
        | _ => none
      | _ => none) else none
    | _ => none
  | _ => none
end

section
theorem near_get : ∀ {t t' : Tr V}, near t t' = true → ∀ i v', t'.get i = some v' → ∃ v, t.get i = some v ∧ (v = v' ∨ bareV v' = true)
  | .e, .e, _, i, v', h => by simp at h
  | .n l x r, .n l' x' r', hn, i, v', h => by
    simp only [near, Bool.and_eq_true, Bool.or_eq_true] at hn
    rcases num_cases i with rfl | ⟨k, rfl⟩ | ⟨k, rfl⟩
    · rw [get_zero] at h ⊢
      simp only [Option.some.injEq] at h
      subst h
      exact ⟨x, rfl, hn.1.1.imp (eqDV_eq _ _) id⟩
    · rw [get_odd] at h ⊢; exact near_get hn.1.2 k v' h
    · rw [get_even] at h ⊢; exact near_get hn.2 k v' h
  | .e, .n _ _ _, h, _, _, _ => by cases h
  | .n _ _ _, .e, h, _, _, _ => by cases h
theorem TmRel.near {ρ ρ' : Loc'} (hE : Ext ρ ρ') {t t' : Tr V} {a b : Array Value} (hn : near t t' = true) (h : TmRel ρ' t' a) (k : TmRel ρ t b) : TmRel ρ t' a := by
  refine ⟨fun i v hv => ?_, h.none⟩
  obtain ⟨x, h1, h2⟩ := h.some i v hv
  obtain ⟨v0, h3, h4⟩ := near_get hn i v hv
  rcases h4 with rfl | h4
  · obtain ⟨y, _, k2⟩ := k.some i v0 h3
    exact ⟨x, h1, h2.back hE k2⟩
  · exact ⟨x, h1, bareV_any h4 h2⟩
theorem holdsIt_eval {W : Base} {ρ : Loc'} {tm : Tr V} {m : Mem} {ds : List Nat} {a : Act} {w : World} {it bi ri : Nat} (h : holdsIt tm it bi = true) (hs : StRel W ρ ⟨tm, m, ds⟩ a w) (hb : ρ bi = some ri) : a.eval (.tmp it) = .pointer (some ⟨ri, 0, none⟩) := by
  unfold holdsIt at h
  split at h
  · rename_i b hg
    have := beq_t h
    subst this
    obtain ⟨x, h1, h2⟩ := hs.some it _ hg
    cases h2 with
    | s k => cases k with
      | one k =>
        obtain ⟨r, h3, h4⟩ := k.ptr_inv
        rw [hb] at h4; cases h4
        subst h3
        simp [Act.eval, h1]
  · cases h
variable {E : Env} {W : Base} {cd : Code → St → Option (Ex × St)} {rd : Option Nat}
theorem entX_spec {rest : Code} {dl : List Nat} {nx more bi bm since c : Nat} {tm t : Tr V} {m : Mem} {ds : List Nat} {e : Nat × Value × V1} (h : entX cd rest dl nx more bi bm since c tm m ds e = some t) :
    ∃ st', cd rest ⟨(tm.set nx (.tup [.one (.v (.bool true)), .one (.v e.2.1), e.2.2])).set more (.s (.one (.v (.bool true)))), ⟨m.hp.set bi (.mit bm since (.at e.1 c)), m.hn, m.hn⟩, ds⟩ = some (.normal, st') ∧
      m.hn ≤ st'.m.wr ∧ st'.ds = ds ∧ t = eraseT dl st'.tm := by
  unfold entX at h
  split at h
  · rename_i st' hc
    cases hb : Nat.ble m.hn st'.m.wr && eqL Nat.beq st'.ds ds with
    | false => rw [hb] at h; cases h
    | true =>
      rw [hb] at h
      simp only [cond_true, Option.some.injEq] at h
      simp only [Bool.and_eq_true] at hb
      exact ⟨st', hc, ble_t hb.1, eqL_eq (fun _ _ h => beq_t h) hb.2, h.symm⟩
  · cases h
theorem ent_round (hC : CodeOk E W rd cd) {rest : Code} {dl : List Nat} {nx more bi bm since c ri rm c0 : Nat} {tm t h0 : Tr V} {m : Mem} {ds : List Nat} {e : Nat × Value × V1} {me : MapEntry} {seen : Array Nat}
    (h : entX cd rest dl nx more bi bm since c tm m ds e = some t) {r : Option Nat} {ρ : Loc'} {a : Act} {w : World} (hrd : RdOk rd r ρ) (hV : ρ.val = E.val) (hs : StRel W ρ ⟨tm, m, ds⟩ a w)
    {b0 : Array Value} (hh0 : TmRel ρ h0 b0) (hn : near h0 t = true) (hno : allB m.hp = true) (hbi : ρ bi = some ri) (hki : m.hp.get bi = some (.mit bm since .any)) (hsc : since ≤ c)
    (hwi : w.heap[ri]? = some (.mapIter (some rm) since seen c0)) (hbm : ρ bm = some rm) (hem : EntR ρ e me) (ho : e.2.1.oneCell' = true) {w1 : World} (hw1 : w1 = w ∨ w1 = w.drew)
    {K : Exit → Act → World → Prop} (hK : ∀ a' w', StRel W ρ ⟨t, m, ds⟩ a' w' → w'.heap[ri]? = some (.mapIter (some rm) since (seen.push me.born) c) → K .normal a' w') :
    rest.wpIn (fen r) 0 E.P K ((a.put (some nx) (.tuple #[.bool true, me.key, me.val])).put (some more) (.bool true)) (setBlock w1 ri (.mapIter (some rm) since (seen.push me.born) c)) := by
  obtain ⟨st', hcd, hwr, hds, ht⟩ := entX_spec h
  obtain ⟨hf, hwp⟩ := hC _ _ _ _ hcd
  have hs1 := hs.seeing seen hno
  have hlt : ri < w.heap.size := (Array.getElem?_eq_some_iff.1 hwi).1
  have hheap : w1.heap = w.heap := by rcases hw1 with rfl | rfl <;> rfl
  have hsz : (0 : Nat) = ρ.sz bi := hs.mem.size bi ri _ hbi hwi
  have hmem : MemRel W (ρ.seeing seen) (m.upd bi (.mit bm since (.at e.1 c))) (setBlock w1 ri (.mapIter (some rm) since (seen.push me.born) c)) := by
    refine hs1.mem.upd (b := bi) (r := ri) (k := .mit bm since (.at e.1 c)) (o := .mapIter (some rm) since (seen.push me.born) c) hbi (by rw [show (St.mk tm m ds).m = m from rfl, hki]; simp) (.mit hbm hsc ⟨by rw [hem.1]; rfl, rfl⟩) hsz ?_ ?_ ?_ ?_ ?_ ?_
    · rcases hw1 with rfl | rfl <;> rfl
    · rcases hw1 with rfl | rfl <;> rfl
    · rcases hw1 with rfl | rfl <;> rfl
    · simp [setBlock, hheap]
    · simp [setBlock, hheap, hlt]
    · intro i hi; simp [setBlock, hheap, Array.getElem?_setIfInBounds_ne (Ne.symm hi)]
  have hst1 : StRel W (ρ.seeing seen) ⟨tm, ⟨m.hp.set bi (.mit bm since (.at e.1 c)), m.hn, m.hn⟩, ds⟩ a (setBlock w1 ri (.mapIter (some rm) since (seen.push me.born) c)) :=
    ⟨hs1.some, hs1.none, hs1.defers, hmem.wr m.hn⟩
  have hst2 := (hst1.put (some nx) (v := .tup [.one (.v (.bool true)), .one (.v e.2.1), e.2.2]) (x := .tuple #[.bool true, me.key, me.val])
    (.tup (xs := [_, _, _]) (.cons (.one (.v rfl)) (.cons (.one (by rw [← hem.2.1]; exact .v ho)) (.cons (hem.2.2.seeing seen) .nil))))).put (some more) (v := .s (.one (.v (.bool true)))) (x := .bool true) (.s (.one (.v rfl)))
  have hrd' : RdOk rd r (ρ.seeing seen) := by cases rd <;> cases r <;> exact hrd
  refine hwp r (ρ.seeing seen) _ _ hrd' hV hst2 K fun ρ' a' w' hE hKp hst => ?_
  have hlow : ∀ b q, (ρ.seeing seen) b = some q → b ≠ bi → st'.m.hp.get b = m.hp.get b := fun b q hb hne => by
    have hbn : b < m.hn := (hs.mem.dom b q hb).1
    rw [hf.get b (Nat.lt_of_lt_of_le hbn hwr) hbn]
    exact get_set_ne _ (Ne.symm hne)
  have hbin : bi < m.hn := (hs.mem.dom bi ri hbi).1
  have hat : st'.m.hp.get bi = some (.mit bm since (.at e.1 c)) := by
    rw [hf.get bi (Nat.lt_of_lt_of_le hbin hwr) hbin]
    exact get_set_eq _ hki
  have hri : w'.heap[ri]? = some (.mapIter (some rm) since (seen.push me.born) c) := by
    obtain ⟨_, _, k, o, h1, h2, h3⟩ := hst.mem.dom bi ri (hE.loc bi ri hbi)
    rw [hat] at h1; cases h1
    cases h3 with
    | mit q1 q2 q3 =>
      obtain ⟨rfl, rfl⟩ := q3
      rw [hE.loc bm rm hbm] at q1; cases q1
      rw [h2, hE.it, hem.1]
      rfl
  have hfin : StRel W (ρ.seeing seen) ⟨t, m, ds⟩ a' w' := by
    have htm : TmRel (ρ.seeing seen) t a'.tmps := by
      refine TmRel.near hE hn ?_ (hh0.seeing seen)
      rw [ht]
      exact erase_sound (TmRel.mk hst.some hst.none)
    refine ⟨htm.some, htm.none, ?_, ?_⟩
    · have h1 := hst.defers
      rw [hds] at h1
      refine All2.back2 (R := fun b d => ∃ D, ρ' b = Option.some D ∧ d = ({ target := .collected D, args := #[] } : Deferred)) (S := fun b d => ∃ D, (ρ.seeing seen) b = Option.some D ∧ d = ({ target := .collected D, args := #[] } : Deferred)) ?_ h1 hs1.defers
      rintro b d d' ⟨D, q1, q2⟩ ⟨D', q3, _⟩
      rw [hE.loc _ _ q3] at q1; cases q1
      exact ⟨_, q3, q2⟩
    · refine ⟨hst.mem.below, fun b q hb => ?_, hs.mem.inj, fun b q o hb ho' => ?_, hs.mem.full⟩
      · obtain ⟨k1, k2, k, o, k3, k4, k5⟩ := hs1.mem.dom b q hb
        refine ⟨k1, k2, k, ?_⟩
        obtain ⟨_, _, k', o', j3, j4, j5⟩ := hst.mem.dom b q (hE.loc b q hb)
        refine ⟨o', k3, j4, ?_⟩
        by_cases hbb : b = bi
        · subst hbb
          have hq : q = ri := by
            have : ρ b = some q := hb
            rw [hbi] at this; cases this; rfl
          subst hq
          have k3' : m.hp.get b = some k := k3
          rw [hki] at k3'; cases k3'
          rw [hri] at j4; cases j4
          exact .mit hbm hsc True.intro
        · rw [hlow b q hb hbb] at j3
          have k3' : m.hp.get b = some k := k3
          rw [k3'] at j3; cases j3
          exact j5.back hE k5
      · exact (hst.mem.size b q o (hE.loc b q hb) ho').trans (hE.sz b q hb)
  exact hK a' w' (hfin.seeing ρ.it hno) hri
theorem filter_empty (l : List Nat) : (l.filter fun b => !(#[] : Array Nat).contains b) = l := by simp
theorem map_rounds (hC : CodeOk E W rd cd) {rest : Code} {dl : List Nat} {nx more it bi bm since c ri rm : Nat} {h0 h1 : Tr V} {m : Mem} {ds : List Nat} {e0 : Nat × Value × V1} {l : List (Nat × Value × V1)} {ex : Ex} {st' : St}
    {id : Nat} {ops : Array Oper} {o1 o2 : Oper} (hops : ops.toList = [o1, o2]) (ho1 : o1.op = .next (.tmp it) false) (hg1 : o1.guard = none) (hd1 : o1.dst = some nx) (ho2 : o2.op = .extract (.tmp nx) 0) (hg2 : o2.guard = none) (hd2 : o2.dst = some more)
    (hne : nx ≠ more)
    (hall : ∀ e ∈ e0 :: l, e.1 < since ∧ e.2.1.oneCell' = true ∧ entX cd rest dl nx more bi bm since c h0 m ds e = some h1 ∧ entX cd rest dl nx more bi bm since c h1 m ds e = some h1)
    (hno : allB m.hp = true) (hi0 : holdsIt h0 it bi = true) (hi1 : holdsIt h1 it bi = true) (hn : near h0 h1 = true) (hsc : since ≤ c) (hx0 : hasT h0 nx = true) (hx1 : hasT h1 nx = true)
    (hend : cd rest ⟨(h1.set nx (.tup [.one (.v (.bool false))])).set more (.s (.one (.v (.bool false)))), m, ds⟩ = some (ex, st')) (hex : ex ≠ .normal)
    {r : Option Nat} {ρ : Loc'} (hrd : RdOk rd r ρ) (hV : ρ.val = E.val) {b0 : Array Value} (hh0 : TmRel ρ h0 b0) (hbi : ρ bi = some ri) (hki : m.hp.get bi = some (.mit bm since .any)) (hbm : ρ bm = some rm) (hkm : m.hp.get bm = some (.map (e0 :: l) c))
    {Q : Exit → Act → World → Prop} (hQ : ∀ ρ' a' w', Ext ρ ρ' → Keep m.hn m st'.m ρ ρ' → StRel W ρ' st' a' w' → Q (exOf ex) a' w') :
    ∀ (k : Nat) (seen : Array Nat) (tm : Tr V) (a : Act) (w : World) (c0 : Nat), (tm = h1 ∨ (tm = h0 ∧ seen = #[])) → StRel W ρ ⟨tm, m, ds⟩ a w → since ≤ c0 → w.heap[ri]? = some (.mapIter (some rm) since seen c0) →
      (((e0 :: l).map (·.1)).filter fun b => !seen.contains b).length ≤ k → Code.roundsIn (fen r) 0 E.P (.seq (.region id ops false) rest) Q (k + 1) a w := by
  intro k
  induction k using Nat.strongRecOn with
  | _ k ih =>
    intro seen tm a w c0 htm hs hsc0 hwi hleft
    rw [roundsIn_succ]
    refine wpIn_seq (wpIn_region ?_)
    have hg1' : ops[0]? = some o1 := by rw [← Array.getElem?_toList, hops]; rfl
    have hg2' : ops[1]? = some o2 := by rw [← Array.getElem?_toList, hops]; rfl
    have hsize : ops.size = 2 := by rw [← Array.length_toList, hops]; rfl
    rw [hsize]
    show wpOpsIn (fen r) 0 E.P ops _ [0, 1] a w
    refine wpOpsIn_cons' hg1' ?_
    have hw1 : Region.wanted o1 (yielded ops a.tmps) = true := by simp [Region.wanted, hg1]
    rw [if_pos hw1]
    refine ⟨fun f _ => fen_fn r f, ?_⟩
    rw [Oper.semAt_eq _ _ _ (fun q hq => by rw [ho1] at hq; cases hq)]
    have hev : a.eval (.tmp it) = .pointer (some ⟨ri, 0, none⟩) := by
      rcases htm with rfl | ⟨rfl, _⟩
      · exact holdsIt_eval hi1 hs hbi
      · exact holdsIt_eval hi0 hs hbi
    obtain ⟨_, _, k0, ob, hk0, hob, hdb⟩ := hs.mem.dom bm rm hbm
    have hk0' : m.hp.get bm = some k0 := hk0
    rw [hkm] at hk0'; cases hk0'
    cases hdb with
    | map hes =>
      rename_i es
      have hold : ∀ x ∈ es.toArray.toList, x.born < since := fun x hx => by
        obtain ⟨e, h1, h2⟩ := ents_mem hes x (by simpa using hx)
        rw [← h2.1]; exact (hall e h1).1
      have hsz : (leftOf es.toArray seen).size = (((e0 :: l).map (·.1)).filter fun b => !seen.contains b).length := by
        rw [left_size, ← ents_born hes]
      have hstep : ∀ (x : Value) (w2 : World), (Instr.next (.pointer (some ⟨ri, 0, none⟩)) false o1.type).run E.P w = .ok x w2 → (execOp a.eval o1).run E.P w = .ok (.value x) w2 := fun x w2 hx => by
        simp [execOp, ho1, hev, hx]
      have hext : ∀ (a1 : Act) (w2 : World) (b : Bool) (xs : List Value), a1.eval (.tmp nx) = .tuple (.bool b :: xs).toArray → (execOp a1.eval o2).run E.P w2 = .ok (.value (.bool b)) w2 := fun a1 w2 b xs hx => by
        simp [execOp, ho2, hx, Instr.extract]
      have hnxt : ∀ (x : Value), (a.put (some nx) x).eval (.tmp nx) = x := fun x => by
        have hlt : nx < a.tmps.size := by
          have hx : hasT tm nx = true := by
            rcases htm with rfl | ⟨rfl, _⟩
            · exact hx1
            · exact hx0
          cases hg : tm.get nx with
          | none => simp [hasT, hg] at hx
          | some v => obtain ⟨y, hy, _⟩ := hs.some nx v hg; exact (Array.getElem?_eq_some_iff.1 hy).1
        simp [Act.put, Act.eval, hlt]
      have second : ∀ (a1 : Act) (w2 : World) (b : Bool) (xs : List Value) (Q' : Exit → Act → World → Prop), a1.eval (.tmp nx) = .tuple (.bool b :: xs).toArray → Q' .normal (a1.put (some more) (.bool b)) w2 → wpOpsIn (fen r) 0 E.P ops Q' [1] a1 w2 := by
        intro a1 w2 b xs Q' hx hq
        refine wpOpsIn_cons' hg2' ?_
        have hw2 : Region.wanted o2 (yielded ops a1.tmps) = true := by simp [Region.wanted, hg2]
        rw [if_pos hw2]
        refine ⟨fun f _ => fen_fn r f, ?_⟩
        rw [Oper.semAt_eq _ _ _ (fun q hq => by rw [ho2] at hq; cases hq), hext a1 w2 b xs hx, Oper.uponIn_value, hd2]
        exact hq
      rcases run_next_at (P := E.P) w o1.type ri rm since c0 seen es.toArray c hwi hob hold hsc0 with ⟨hz, hrun⟩ | ⟨me, hme, w1, hw1', hrun⟩
      · rw [hstep _ _ hrun, Oper.uponIn_value, hd1]
        refine second _ _ false [] _ (hnxt _) ?_
        have htm1 : tm = h1 := by
          rcases htm with h | ⟨_, rfl⟩
          · exact h
          · rw [hsz, filter_empty] at hz; simp at hz
        subst htm1
        have hst := (hs.put (some nx) (v := .tup [.one (.v (.bool false))]) (x := .tuple #[.bool false]) (.tup (xs := [_]) (.cons (.one (.v rfl)) .nil))).put (some more) (v := .s (.one (.v (.bool false)))) (x := .bool false) (.s (.one (.v rfl)))
        refine (hC _ _ _ _ hend).2 r ρ _ _ hrd hV hst _ fun ρ' a' w' k1 k2 k3 => ?_
        have := hQ ρ' a' w' k1 k2 k3
        cases ex with
        | normal => exact absurd rfl hex
        | exit id => exact this
        | ret => exact this
      · rw [hstep _ _ hrun, Oper.uponIn_value, hd1]
        refine second _ _ true [me.key, me.val] _ (hnxt _) ?_
        obtain ⟨hm1, hm2⟩ := mem_left hme
        obtain ⟨e, he, hem⟩ := ents_mem hes me (by simpa using hm1)
        obtain ⟨_, q2, q3, q4⟩ := hall e he
        have hent : entX cd rest dl nx more bi bm since c tm m ds e = some h1 := by
          rcases htm with rfl | ⟨rfl, _⟩
          · exact q4
          · exact q3
        have hshr := left_shrinks es.toArray seen me hme
        refine ent_round hC hent hrd hV hs hh0 hn hno hbi hki hsc hwi hbm hem q2 hw1' fun a' w' hst hwi' => ?_
        have hsz' : (leftOf es.toArray (seen.push me.born)).size = (((e0 :: l).map (·.1)).filter fun b => !(seen.push me.born).contains b).length := by
          rw [left_size, ← ents_born hes]
        obtain ⟨k', rfl⟩ : ∃ k', k = k' + 1 := ⟨k - 1, by omega⟩
        exact ih k' (by omega) (seen.push me.born) h1 a' w' c (.inl rfl) hst hsc hwi' (by omega)
theorem cond_some {α : Type} {c : Bool} {x : Option α} {y : α} (h : (bif c then x else none) = some y) : c = true ∧ x = some y := by
  cases c with
  | true => exact ⟨rfl, h⟩
  | false => cases h
theorem goesTo_eq {h : Tr V} {o : Option (Tr V)} (k : goesTo h o = true) : o = some h := by
  cases o with
  | none => cases k
  | some t => rw [eqT_eq k]
theorem mapLoop_ok (hC : CodeOk E W rd cd) {b : Code} {st : St} {ex : Ex} {st' : St} (h : mapLoopX cd b st = some (ex, st')) :
    Frm st.m st'.m ∧ ∀ (r : Option Nat) (ρ : Loc') (a : Act) (w : World), RdOk rd r ρ → ρ.val = E.val → StRel W ρ st a w → ∀ Q : Exit → Act → World → Prop,
      (∀ ρ' a' w', Ext ρ ρ' → Keep st.m.hn st.m st'.m ρ ρ' → StRel W ρ' st' a' w' → Q (exOf ex) a' w') → (Code.loop b).wpIn (fen r) 0 E.P Q a w := by
  unfold mapLoopX at h
  split at h
  · rename_i id ops rest
    split at h
    · rename_i nx it ty1 pos1 af1 more nx' ty2 pos2 af2 hops
      cases hq : Nat.beq nx nx' && !(Nat.beq nx more) && !(Nat.beq nx it) with
      | false => rw [hq] at h; cases h
      | true =>
        rw [hq] at h
        simp only [cond_true] at h
        simp only [Bool.and_eq_true, Bool.not_eq_true'] at hq
        obtain ⟨⟨g1, g2⟩, g3⟩ := hq
        have g1 := beq_t g1
        subst g1
        have g2 := beq_f g2
        split at h
        · rename_i bi hit
          split at h
          · rename_i bm since hki
            split at h
            · rename_i e0 l c hkm
              unfold mapRunX at h
              dsimp only at h
              split at h
              · rename_i h1 hh1
                generalize hdl : (nx :: more :: dstsC rest []) = dl at h hh1
                generalize hm : st.m.upd bi (.mit bm since .any) = m at h hh1
                generalize hh0 : eraseT dl st.tm = h0 at h hh1
                obtain ⟨hc, h⟩ := cond_some h
                simp only [Bool.and_eq_true] at hc
                obtain ⟨⟨⟨⟨⟨⟨⟨c1, c2⟩, c3⟩, c4⟩, c5⟩, c6⟩, c7⟩, c8⟩ := hc
                have hall : ∀ e ∈ e0 :: l, e.1 < since ∧ e.2.1.oneCell' = true ∧ entX cd rest dl nx more bi bm since c h0 m st.ds e = some h1 ∧ entX cd rest dl nx more bi bm since c h1 m st.ds e = some h1 := fun e he => by
                  have := List.all_eq_true.1 c1 e he
                  simp only [Bool.and_eq_true] at this
                  obtain ⟨⟨⟨d1, d2⟩, d3⟩, d4⟩ := this
                  exact ⟨Nat.le_of_ble_eq_true d1, d2, goesTo_eq d3, goesTo_eq d4⟩
                have hend : cd rest ⟨(h1.set nx (.tup [.one (.v (.bool false))])).set more (.s (.one (.v (.bool false)))), m, st.ds⟩ = some (ex, st') ∧ ex ≠ .normal := by
                  split at h
                  · cases h
                  · rename_i hno
                    exact ⟨h, fun e => by subst e; exact hno _ h⟩
                obtain ⟨hend, hex⟩ := hend
                have hfm : Frm st.m m := by rw [← hm]; exact Frm.upd _ _ _
                refine ⟨hfm.trans (hC _ _ _ _ hend).1, fun r ρ a w hrd hV hs Q hQ => ?_⟩
                obtain ⟨ri, hri, hbi⟩ := (evc_sound hs hit).ptr_inv
                obtain ⟨_, _, k0, ob, hk0, hob, hdb⟩ := hs.mem.dom bi ri hbi
                rw [hki] at hk0; cases hk0
                cases hdb with
                | mit hbm hsc0 hfr =>
                  rename_i rm c0 seen
                  have hfr : seen = #[] := hfr
                  subst hfr
                  have hne : bm ≠ bi := fun e => by rw [e, hki] at hkm; cases hkm
                  have hmem : MemRel W ρ m w := by
                    rw [← hm]
                    refine hs.mem.upd (b := bi) (r := ri) (k := .mit bm since .any) (o := .mapIter (some rm) since #[] c0) hbi (by rw [hki]; simp) (.mit hbm hsc0 True.intro) (hs.mem.size bi ri _ hbi hob) rfl rfl rfl (Nat.le_refl _) hob (fun _ _ => rfl)
                  have htm : TmRel ρ h0 a.tmps := by rw [← hh0]; exact erase_sound (TmRel.mk hs.some hs.none)
                  have hst : StRel W ρ ⟨h0, m, st.ds⟩ a w := ⟨htm.some, htm.none, hs.defers, hmem⟩
                  have hkm' : m.hp.get bm = some (.map (e0 :: l) c) := by rw [← hm]; exact (get_set_ne _ (Ne.symm hne)).trans hkm
                  have hki' : m.hp.get bi = some (.mit bm since .any) := by rw [← hm]; exact get_set_eq _ hki
                  refine wpIn_loop_rounds ((((e0 :: l).map (·.1)).filter fun b => !(#[] : Array Nat).contains b).length + 1) ?_
                  refine map_rounds hC hops rfl rfl rfl rfl rfl rfl g2 hall c2 c3 c4 c5 (Nat.le_of_ble_eq_true c6) c7 c8 hend hex hrd hV htm hbi hki' hbm hkm' ?_ _ #[] h0 a w c0 (.inr ⟨rfl, rfl⟩) hst hsc0 hob (Nat.le_refl _)
                  intro ρ' a' w' k1 k2 k3
                  refine hQ ρ' a' w' k1 ?_ k3
                  have hk : Keep st.m.hn st.m m ρ ρ := by rw [← hm]; exact Keep.upd hbi
                  exact hk.trans k2 hfm.hn
              · cases h
            · cases h
          · cases h
        · cases h
    · cases h
  · cases h
end
/-- A loop over a map. -/
def isMapLoop : Code → Bool
  | .seq (.region _ ops false) _ => match ops[0]? with
    | some o => match o.op with
      | .next _ false => true
      | _ => false
    | none => false
  | _ => false
end Go.Ry
