/-
  THE RUNNER, put to use: what a run of the runner says of a call; tables of calls that are known.
  THE RUNNER, FASTER: the same functions, said so that the kernel reckons them sooner; each is the elder one.
  THE RUNNER, FASTER, part 2: operations, regions, code.
-/
import Derived.Test.YtchmpdkicbmnfaaGreatMRK
set_option linter.all false
namespace Go.Ry
open Go Go.RowKit

def noLoc (val : Lets) : Loc' := ⟨fun _ => none, fun _ => 0, val⟩
theorem MemRel.empty (w : World) (val : Lets) : MemRel w (noLoc val) ⟨.e, 0, 0⟩ w := ⟨Below.refl _ _, fun b r h => (by cases h), fun b b' r h => (by cases h), fun b r o h => (by cases h), fun i hi => absurd hi (Nat.not_lt_zero _)⟩

/-- A call of f at l hands back v, whatever the world; nothing that was there has turned. -/
def Known (P : Program) (f : FuncId) (l : List V1) (v : V) : Prop :=
  ∀ (ρ : Loc') (xs : List Value) (w : World), All2 (D1 ρ) l xs → (callFunc f xs.toArray).run P w = .ok (.enter f xs.toArray) w ∧
    Calls P f xs.toArray w fun e w' => ∃ x, e = .returned x ∧ DV ρ v x ∧ Below w.heap.size w w'

/-- Values without an address. -/
def bareC : C → Bool
  | .v _ => true
  | _ => false
def bare1 : V1 → Bool
  | .one c => bareC c
  | .agg l => l.all bareC
def bareV : V → Bool
  | .s x => bare1 x
  | .tup l => l.all bare1
section
variable {ρ ρ' : Loc'}
theorem bareC_any {c : C} {x : Value} (hb : bareC c = true) (h : DC ρ c x) : DC ρ' c x := by
  cases h with
  | v k => exact .v k
  | _ => cases hb
theorem All2.any {α β : Type} {R S : α → β → Prop} {p : α → Bool} (h : ∀ a b, p a = true → R a b → S a b) : ∀ {l : List α} {m : List β}, l.all p = true → All2 R l m → All2 S l m
  | _, _, _, .nil => .nil
  | _, _, hp, .cons x y => by
    simp only [List.all_cons, Bool.and_eq_true] at hp
    exact .cons (h _ _ hp.1 x) (All2.any h hp.2 y)
theorem bare1_any {c : V1} {x : Value} (hb : bare1 c = true) (h : D1 ρ c x) : D1 ρ' c x := by
  cases h with
  | one k => exact .one (bareC_any hb k)
  | agg k => exact .agg (k.any (fun _ _ => bareC_any) hb)
theorem bareV_any {c : V} {x : Value} (hb : bareV c = true) (h : DV ρ c x) : DV ρ' c x := by
  cases h with
  | s k => exact .s (bare1_any hb k)
  | tup k => exact .tup (k.any (fun _ _ => bare1_any) hb)
end

theorem known_of_run {E : Env} (hE : ∀ W, EnvOk E W) {fuel : Nat} {f : FuncId} {l : List V1} {v : V} (hl : l.all bare1 = true) (hv : bareV v = true)
    (h : (funX E fuel f l ⟨.e, 0, 0⟩).map (·.1) = some v) : Known E.P f l v := by
  intro ρ xs w hx
  simp only [Option.map_eq_some_iff] at h
  obtain ⟨⟨v', m'⟩, h, rfl⟩ := h
  have hx' : All2 (D1 (noLoc E.val)) l xs := hx.any (fun _ _ => bare1_any) hl
  have hR := run_ok (hE w) (code_ok (hE w) fuel false) (code_ok (hE w) fuel true)
  obtain ⟨h1, h2⟩ := hR.calls f l _ _ _ h (noLoc E.val) xs w rfl hx' (MemRel.empty w _)
  refine ⟨h1, h2.mono fun e w' he => ?_⟩
  obtain ⟨x, ρ', rfl, _, _, h5, h6⟩ := he
  exact ⟨x, rfl, bareV_any hv h5, h6.below⟩

/-! ### Alike -/
def eqE : Exp → Exp → Bool
  | .inp k i, .inp k' i' => decide (k = k') && Nat.beq i i'
  | .lit n, .lit n' => decide (n = n')
  | .bin op k a b, .bin op' k' a' b' => decide (op = op') && decide (k = k') && eqE a a' && eqE b b'
  | .wrap k a, .wrap k' a' => decide (k = k') && eqE a a'
  | .addS a b c, .addS a' b' c' => eqE a a' && eqE b b' && eqE c c'
  | .addC a b c, .addC a' b' c' => eqE a a' && eqE b b' && eqE c c'
  | .subS a b c, .subS a' b' c' => eqE a a' && eqE b b' && eqE c c'
  | .subC a b c, .subC a' b' c' => eqE a a' && eqE b b' && eqE c c'
  | _, _ => false
theorem eqE_eq : ∀ {a b : Exp}, eqE a b = true → a = b := by
  intro a
  induction a with
  | inp k i => intro b h; cases b <;> simp [eqE] at h; rw [h.1, h.2]
  | lit n => intro b h; cases b <;> simp [eqE] at h; rw [h]
  | bin op k a b iha ihb => intro c h; cases c <;> simp [eqE] at h; rw [h.1.1.1, h.1.1.2, iha h.1.2, ihb h.2]
  | wrap k a iha => intro c h; cases c <;> simp [eqE] at h; rw [h.1, iha h.2]
  | addS a b c iha ihb ihc => intro d h; cases d <;> simp [eqE] at h; rw [iha h.1.1, ihb h.1.2, ihc h.2]
  | addC a b c iha ihb ihc => intro d h; cases d <;> simp [eqE] at h; rw [iha h.1.1, ihb h.1.2, ihc h.2]
  | subS a b c iha ihb ihc => intro d h; cases d <;> simp [eqE] at h; rw [iha h.1.1, ihb h.1.2, ihc h.2]
  | subC a b c iha ihb ihc => intro d h; cases d <;> simp [eqE] at h; rw [iha h.1.1, ihb h.1.2, ihc h.2]
def eqC : C → C → Bool
  | .v (.int k n), .v (.int k' n') => decide (k = k') && decide (n = n')
  | .v (.bool b), .v (.bool b') => b == b'
  | .ex k e, .ex k' e' => decide (k = k') && eqE e e'
  | .v (.string s), .v (.string s') => decide (s.toList = s'.toList)
  | .opq i, .opq j => Nat.beq i j
  | _, _ => false
def eqL {α : Type} (eq : α → α → Bool) : List α → List α → Bool
  | [], [] => true
  | x :: l, y :: m => eq x y && eqL eq l m
  | _, _ => false
def eq1 : V1 → V1 → Bool
  | .one c, .one d => eqC c d
  | .agg l, .agg m => eqL eqC l m
  | _, _ => false
theorem eqC_eq {c d : C} (h : eqC c d = true) : c = d := by
  unfold eqC at h
  split at h
  · simp only [Bool.and_eq_true, decide_eq_true_eq] at h; rw [h.1, h.2]
  · have := eq_of_beq h; rw [this]
  · simp only [Bool.and_eq_true, decide_eq_true_eq] at h; rw [h.1, eqE_eq h.2]
  · rename_i s s'
    simp only [decide_eq_true_eq] at h
    have : s = s' := by
      rw [ByteArray.toList_eq, ByteArray.toList_eq] at h
      cases s; cases s'
      simp at h; rw [h]
    rw [this]
  · rw [beq_t h]
  · cases h
theorem eqL_eq {α : Type} {eq : α → α → Bool} (he : ∀ x y, eq x y = true → x = y) : ∀ {l m : List α}, eqL eq l m = true → l = m
  | [], [], _ => rfl
  | [], _ :: _, h => by cases h
  | _ :: _, [], h => by cases h
  | x :: l, y :: m, h => by
    simp only [eqL, Bool.and_eq_true] at h
    rw [he _ _ h.1, eqL_eq he h.2]
theorem eq1_eq (c d : V1) (h : eq1 c d = true) : c = d := by
  cases c <;> cases d <;> try (cases h; done)
  · rw [eqC_eq h]
  · rw [eqL_eq (fun _ _ => eqC_eq) h]

/-- A table of calls that are known. -/
structure Row where
  f : FuncId
  l : List V1
  v : V
def sumOf : List Row → FuncId → List V1 → Option V
  | [], _, _ => none
  | r :: rs, f, l => bif Nat.beq r.f f && eqL eq1 r.l l then some r.v else sumOf rs f l
theorem sumOf_known {P : Program} : ∀ {rs : List Row}, (∀ r ∈ rs, Known P r.f r.l r.v) → ∀ {f : FuncId} {l : List V1} {v : V}, sumOf rs f l = some v → Known P f l v
  | [], _, f, l, v, h => by cases h
  | r :: rs, hr, f, l, v, h => by
    simp only [sumOf] at h
    cases hc : Nat.beq r.f f && eqL eq1 r.l l with
    | true =>
      rw [hc] at h
      simp only [cond_true, Option.some.injEq] at h
      subst h
      simp only [Bool.and_eq_true] at hc
      have h1 := beq_t hc.1
      have h2 := eqL_eq eq1_eq hc.2
      subst h1; subst h2
      exact hr r (by simp)
    | false =>
      rw [hc] at h
      exact sumOf_known (fun r hm => hr r (by simp [hm])) h

/-- The whole of a result, alike. -/
def eqV : V → V → Bool
  | .s x, .s y => eq1 x y
  | .tup l, .tup m => eqL eq1 l m
  | _, _ => false
theorem eqV_eq {c d : V} (h : eqV c d = true) : c = d := by
  cases c <;> cases d <;> try (cases h; done)
  · rw [eq1_eq _ _ h]
  · rw [eqL_eq eq1_eq h]
def isRun (r : Row) (o : Option (V × Mem)) : Bool :=
  match o with
  | some (v, _) => eqV v r.v
  | none => false
/-- One row of a table, by one run. -/
theorem row_known {E : Env} (hE : ∀ W, EnvOk E W) {fuel : Nat} {r : Row} (h : (r.l.all bare1 && bareV r.v && isRun r (funX E fuel r.f r.l ⟨.e, 0, 0⟩)) = true) : Known E.P r.f r.l r.v := by
  simp only [Bool.and_eq_true] at h
  obtain ⟨⟨h1, h2⟩, h3⟩ := h
  refine known_of_run hE (fuel := fuel) h1 h2 ?_
  unfold isRun at h3
  split at h3
  · rename_i v m hm
    rw [hm]
    simp only [Option.map_some]
    rw [eqV_eq h3]
  · cases h3
end Go.Ry
namespace Go.Ry
open Go Go.RowKit

noncomputable def sel {γ : Type} (c : Bool) (t e : γ) : γ := Bool.rec e t c
/-! ### Tables -/
section
variable {α β : Type}
noncomputable def getR (t : Tr α) : Nat → Option α :=
  Tr.rec (motive := fun _ => Nat → Option α) (fun _ => none)
    (fun _ x _ gl gr i => Bool.rec (Bool.rec (gr (Nat.sub (Nat.div i 2) 1)) (gl (Nat.div i 2)) (Nat.beq (Nat.mod i 2) 1)) (some x) (Nat.beq i 0)) t
theorem getR_eq (t : Tr α) : ∀ i, getR t i = t.get i := by
  induction t with
  | e => intro i; rfl
  | n l x r ihl ihr =>
    intro i
    show (sel (Nat.beq i 0) (some x) ((sel (Nat.beq (Nat.mod i 2) 1) (getR l (Nat.div i 2)) (getR r (Nat.sub (Nat.div i 2) 1))))) = _
    simp only [Tr.get]
    cases Nat.beq i 0 with
    | true => rfl
    | false =>
      cases Nat.beq (Nat.mod i 2) 1 with
      | true => exact ihl _
      | false => exact ihr _
noncomputable def setK (y : α) (t : Tr α) : Nat → (Tr α → β) → β :=
  Tr.rec (motive := fun _ => Nat → (Tr α → β) → β) (fun _ k => k .e)
    (fun l x r sl sr i k => Bool.rec (Bool.rec (sr (Nat.sub (Nat.div i 2) 1) fun r' => k (.n l x r')) (sl (Nat.div i 2) fun l' => k (.n l' x r)) (Nat.beq (Nat.mod i 2) 1)) (k (.n l y r)) (Nat.beq i 0)) t
theorem setK_eq (y : α) (t : Tr α) : ∀ i (k : Tr α → β), setK y t i k = k (t.set i y) := by
  induction t with
  | e => intro i k; rfl
  | n l x r ihl ihr =>
    intro i k
    show (sel (Nat.beq i 0) (k (.n l y r)) ((sel (Nat.beq (Nat.mod i 2) 1) (setK y l (Nat.div i 2) fun l' => k (.n l' x r)) (setK y r (Nat.sub (Nat.div i 2) 1) fun r' => k (.n l x r'))))) = _
    simp only [Tr.set]
    cases Nat.beq i 0 with
    | true => rfl
    | false =>
      cases Nat.beq (Nat.mod i 2) 1 with
      | true => exact ihl _ _
      | false => exact ihr _ _
noncomputable def insK (y : α) (t : Tr α) : Nat → (Tr α → β) → β :=
  Tr.rec (motive := fun _ => Nat → (Tr α → β) → β) (fun i k => Bool.rec (k .e) (k (.n .e y .e)) (Nat.beq i 0))
    (fun l x r sl sr i k => Bool.rec (Bool.rec (sr (Nat.sub (Nat.div i 2) 1) fun r' => k (.n l x r')) (sl (Nat.div i 2) fun l' => k (.n l' x r)) (Nat.beq (Nat.mod i 2) 1)) (k (.n l y r)) (Nat.beq i 0)) t
theorem insK_eq (y : α) (t : Tr α) : ∀ i (k : Tr α → β), insK y t i k = k (t.ins i y) := by
  induction t with
  | e =>
    intro i k
    show (sel (Nat.beq i 0) (k (.n .e y .e)) (k .e)) = _
    simp only [Tr.ins]
    cases Nat.beq i 0 <;> rfl
  | n l x r ihl ihr =>
    intro i k
    show (sel (Nat.beq i 0) (k (.n l y r)) ((sel (Nat.beq (Nat.mod i 2) 1) (insK y l (Nat.div i 2) fun l' => k (.n l' x r)) (insK y r (Nat.sub (Nat.div i 2) 1) fun r' => k (.n l x r'))))) = _
    simp only [Tr.ins]
    cases Nat.beq i 0 with
    | true => rfl
    | false =>
      cases Nat.beq (Nat.mod i 2) 1 with
      | true => exact ihl _ _
      | false => exact ihr _ _
end

/-! ### Rows of cells -/
/-- The first n of a list, handed on once they lie there; none if there are fewer. -/
noncomputable def takeK {β : Type} (l : List C) : Nat → (List C → Option β) → Option β :=
  List.rec (motive := fun _ => Nat → (List C → Option β) → Option β) (fun n k => Bool.rec none (k []) (Nat.beq n 0))
    (fun x _ ih n k => Bool.rec (ih (Nat.sub n 1) fun r => k (x :: r)) (k []) (Nat.beq n 0)) l
noncomputable def takeAtK {β : Type} (l : List C) : Nat → Nat → (List C → Option β) → Option β :=
  List.rec (motive := fun _ => Nat → Nat → (List C → Option β) → Option β) (fun o n k => Bool.rec none (Bool.rec none (k []) (Nat.beq n 0)) (Nat.beq o 0))
    (fun x t ih o n k => Bool.rec (ih (Nat.sub o 1) n k) (takeK (x :: t) n k) (Nat.beq o 0)) l
theorem takeK_eq {β : Type} (l : List C) : ∀ n (k : List C → Option β), takeK l n k = bif Nat.ble n l.length then k (l.take n) else none := by
  induction l with
  | nil =>
    intro n k
    show (sel (Nat.beq n 0) (k []) (none)) = _
    cases n with
    | zero => rfl
    | succ n => rfl
  | cons x l ih =>
    intro n k
    show (sel (Nat.beq n 0) (k []) (takeK l (Nat.sub n 1) fun r => k (x :: r))) = _
    cases n with
    | zero => rfl
    | succ n =>
      show takeK l n (fun r => k (x :: r)) = _
      rw [ih]
      rfl
theorem takeAtK_eq {β : Type} (l : List C) : ∀ o n (k : List C → Option β), takeAtK l o n k = match takeAt l o n with | some r => k r | none => none := by
  induction l with
  | nil =>
    intro o n k
    show (sel (Nat.beq o 0) ((sel (Nat.beq n 0) (k []) (none))) (none)) = _
    unfold takeAt
    cases o with
    | zero => cases n <;> rfl
    | succ o =>
      have : Nat.ble (o + 1 + n) ([] : List C).length = false := by rw [Nat.add_right_comm]; rfl
      rw [this]; rfl
  | cons x l ih =>
    intro o n k
    show (sel (Nat.beq o 0) (takeK (x :: l) n k) (takeAtK l (Nat.sub o 1) n k)) = _
    cases o with
    | zero =>
      show takeK (x :: l) n k = _
      rw [takeK_eq]
      unfold takeAt
      rw [Nat.zero_add, List.drop_zero]
      cases Nat.ble n (x :: l).length <;> rfl
    | succ o =>
      show takeAtK l o n k = _
      rw [ih]
      unfold takeAt
      have : Nat.ble (o + 1 + n) (x :: l).length = Nat.ble (o + n) l.length := by rw [Nat.add_right_comm]; rfl
      rw [this]
      rfl
/-- cs is laid over the beginning of a list. -/
noncomputable def overK {β : Type} (cs : List C) : List C → (List C → Option β) → Option β :=
  List.rec (motive := fun _ => List C → (List C → Option β) → Option β) (fun l k => k l)
    (fun c _ ih l k => List.rec (motive := fun _ => Option β) none (fun _ t _ => ih t fun r => k (c :: r)) l) cs
/-- A halt on the road: the kernel comes back here before it goes on. -/
def mark {α : Type} (x : α) : α := x
noncomputable def putAtK {β : Type} (cs : List C) (l : List C) : Nat → (List C → Option β) → Option β :=
  List.rec (motive := fun _ => Nat → (List C → Option β) → Option β) (fun o k => Bool.rec none (overK cs [] k) (Nat.beq o 0))
    (fun x t ih o k => Bool.rec (mark (ih (Nat.sub o 1) fun r => mark (k (x :: r)))) (overK cs (x :: t) k) (Nat.beq o 0)) l
theorem overK_eq {β : Type} (cs : List C) : ∀ l (k : List C → Option β), overK cs l k = bif Nat.ble cs.length l.length then k (cs ++ l.drop cs.length) else none := by
  induction cs with
  | nil =>
    intro l k
    show k l = _
    rfl
  | cons c cs ih =>
    intro l k
    cases l with
    | nil => rfl
    | cons x l =>
      show overK cs l (fun r => k (c :: r)) = _
      rw [ih]
      rfl
theorem putAtK_eq {β : Type} (cs : List C) (l : List C) : ∀ o (k : List C → Option β), putAtK cs l o k = match putAt l o cs with | some r => k r | none => none := by
  induction l with
  | nil =>
    intro o k
    show (sel (Nat.beq o 0) (overK cs [] k) (none)) = _
    unfold putAt
    cases o with
    | zero =>
      show overK cs [] k = _
      rw [overK_eq, Nat.zero_add]
      cases Nat.ble cs.length ([] : List C).length <;> simp
    | succ o =>
      have : Nat.ble (o + 1 + cs.length) ([] : List C).length = false := by rw [Nat.add_right_comm]; rfl
      rw [this]; rfl
  | cons x l ih =>
    intro o k
    show (sel (Nat.beq o 0) (overK cs (x :: l) k) (putAtK cs l (Nat.sub o 1) fun r => k (x :: r))) = _
    cases o with
    | zero =>
      show overK cs (x :: l) k = _
      rw [overK_eq]
      unfold putAt
      rw [Nat.zero_add]
      cases Nat.ble cs.length (x :: l).length <;> rfl
    | succ o =>
      show putAtK cs l o (fun r => k (x :: r)) = _
      rw [ih]
      unfold putAt
      have : Nat.ble (o + 1 + cs.length) (x :: l).length = Nat.ble (o + cs.length) l.length := by rw [Nat.add_right_comm]; rfl
      rw [this]
      have e : o + 1 + cs.length = o + cs.length + 1 := by omega
      cases Nat.ble (o + cs.length) l.length with
      | false => rfl
      | true =>
        simp only [cond_true]
        rw [e]
        rfl
noncomputable def nthR (l : List C) : Nat → Option C :=
  List.rec (motive := fun _ => Nat → Option C) (fun _ => none) (fun x _ ih n => Bool.rec (ih (Nat.sub n 1)) (some x) (Nat.beq n 0)) l
theorem nthR_eq (l : List C) : ∀ n, nthR l n = l[n]? := by
  induction l with
  | nil => intro n; rfl
  | cons x l ih =>
    intro n
    show sel (Nat.beq n 0) (some x) (nthR l (Nat.sub n 1)) = _
    cases n with
    | zero => rfl
    | succ n =>
      show nthR l n = _
      rw [ih]; rfl

/-! ### Reads and reckonings -/
section
variable (E : Env) (st : St)
noncomputable def evF (x : Operand) : Option V :=
  match x with
  | .tmp t => getR st.tm t
  | x => st.eval x
theorem evF_eq (x : Operand) : evF st x = st.eval x := by
  cases x with
  | tmp t => exact getR_eq _ _
  | _ => rfl
noncomputable def ev1F (x : Operand) : Option V1 :=
  match evF st x with
  | some (.s y) => some y
  | _ => none
theorem ev1F_eq (x : Operand) : ev1F st x = st.ev1 x := by
  unfold ev1F St.ev1
  rw [evF_eq]
  cases st.eval x with
  | none => rfl
  | some v => cases v <;> rfl
noncomputable def evcF (x : Operand) : Option C :=
  match evF st x with
  | some (.s (.one c)) => some c
  | _ => none
theorem evcF_eq (x : Operand) : evcF st x = st.evc x := by
  unfold evcF St.evc
  rw [evF_eq]
  cases st.eval x with
  | none => rfl
  | some v => cases v with
    | s y => cases y <;> rfl
    | tup l => rfl
noncomputable def pickF (c a b : Operand) : Option V :=
  match evcF st c with
  | some (.v (.bool t)) => bif t then evF st a else evF st b
  | _ => none
noncomputable def partF (P : Program) (t : TypeId) (l : List C) (o : Nat) : Option V1 :=
  match isAggX P t with
  | some true => match sizeX P t with
    | some n => takeAtK l o n fun r => some (.agg r)
    | none => none
  | some false => match nthR l o with
    | some c => some (.one c)
    | none => none
  | none => none
theorem partF_eq (P : Program) (t : TypeId) (l : List C) (o : Nat) : partF P t l o = partX P t l o := by
  unfold partF partX
  cases isAggX P t with
  | none => rfl
  | some ag =>
    cases ag with
    | true =>
      cases sizeX P t with
      | none => rfl
      | some n =>
        simp only
        rw [takeAtK_eq]
        cases takeAt l o n <;> rfl
    | false =>
      simp only
      rw [nthR_eq]
      cases l[o]? <;> rfl
noncomputable def cellsF (P : Program) (m : Mem) (t : TypeId) (b o : Nat) : Option V1 :=
  match getR m.hp b with
  | some (.cells l _) => partF P t l o
  | _ => none
theorem cellsF_eq (P : Program) (t : TypeId) (b o : Nat) : cellsF P st.m t b o = loadX P st t b o := by
  unfold cellsF loadX
  rw [getR_eq]
  cases st.m.hp.get b with
  | none => rfl
  | some k => cases k <;> first | exact partF_eq _ _ _ _ | rfl
def vsOf : Option V1 → Option V
  | some y => some (.s y)
  | none => none
theorem vsOf_eq (x : Option V1) : vsOf x = x.map .s := by cases x <;> rfl
noncomputable def loadF (P : Program) (t : TypeId) (a : Operand) : Option V :=
  match evcF st a with
  | some (.ptr b o) => vsOf (cellsF P st.m t b o)
  | _ => none
noncomputable def binF (o : Oper) (op : BinOp) (t : TypeId) (x y : Operand) : Option V :=
  match ev1F st x with
  | some a => match ev1F st y with
    | some b => match binX E.P op t a b with
      | some v => some (.s (.one (.v v)))
      | none => orcX E st o
    | none => orcX E st o
  | none => orcX E st o
noncomputable def convF (o : Oper) (s d : TypeId) (x : Operand) : Option V :=
  match ev1F st x with
  | some a => match convX E.P s d a with
    | some v => some (.s v)
    | none => orcX E st o
  | none => orcX E st o
noncomputable def faF (P : Program) (t : TypeId) (x : Operand) (f : Nat) : Option V :=
  match P.underlying t, evcF st x with
  | some (.struct fs), some (.ptr b o) => match fs[f]? with
    | some g => match sizeX P g.type with
      | some s => bif Nat.beq s 0 then none else some (.s (.one (.ptr b (o + g.offset))))
      | none => none
    | none => none
  | _, _ => none
noncomputable def atF (P : Program) (e : TypeId) (n b o : Nat) (i : Int) : Option V :=
  if 0 ≤ i ∧ i < n then (match sizeX P e with | some s => some (.s (.one (.ptr b (o + i.toNat * s)))) | none => none) else none
noncomputable def iaF (P : Program) (t : TypeId) (x i : Operand) : Option V :=
  match P.underlying t, evcF st x, evcF st i with
  | some (.array n e), some (.ptr b o), some (.v (.int _ i)) => atF P e n b o i
  | some (.slice e), some (.sl b o n _), some (.v (.int _ i)) => atF P e n b o i
  | some (.slice e), some (.slf b o n _), some (.v (.int _ i)) => atF P e n b o i
  | _, _, _ => none
def nthV : List V1 → Nat → Option V
  | l, i => (l[i]?).map .s
noncomputable def exF (t : Operand) (i : Nat) : Option V :=
  match evF st t with
  | some (.tup l) => nthV l i
  | _ => none
noncomputable def pureF (o : Oper) : Option V :=
  match o.op with
  | .move x => evF st x
  | .assign x => evF st x
  | .pick c a b => pickF st c a b
  | .load t a => loadF st E.P t a
  | .binOp op t x y _ => binF E st o op t x y
  | .convert s d x => convF E st o s d x
  | .fieldAddr t x f => faF st E.P t x f
  | .indexAddr t x i => iaF st E.P t x i
  | .extract t i => exF st t i
  | _ => pureO E st o
theorem opt_id {α : Type} (a : Option α) : (match a with | some v => some v | none => none) = a := by cases a <;> rfl
theorem pureF_eq (o : Oper) : pureF E st o = pureO E st o := by
  obtain ⟨dst, op, type, pos, after, guard⟩ := o
  unfold pureF
  cases op with
  | move x =>
    simp only [pureO, pureX, orcX, evF_eq]
    cases st.eval x <;> rfl
  | assign x =>
    simp only [pureO, pureX, orcX, evF_eq]
    cases st.eval x <;> rfl
  | pick c a b =>
    simp only [pureO, pureX, orcX, pickF, evF_eq, evcF_eq]
    cases st.evc c with
    | none => rfl
    | some c =>
      cases c with
      | v x => cases x with
        | bool t => cases t <;> simp only [cond_true, cond_false] <;> (split <;> simp_all)
        | _ => rfl
      | _ => rfl
  | load t a =>
    simp only [pureO, pureX, orcX, loadF, evcF_eq]
    cases st.evc a with
    | none => rfl
    | some c =>
      cases c with
      | ptr b o =>
        simp only [cellsF_eq, vsOf_eq]
        cases loadX E.P st t b o <;> rfl
      | _ => rfl
  | binOp op t x y ty =>
    simp only [pureO, pureX, binF, ev1F_eq]
    cases hx : st.ev1 x with
    | none => simp only
    | some a =>
      cases hy : st.ev1 y with
      | none => simp only
      | some b =>
        simp only
        cases binX E.P op t a b <;> rfl
  | convert s d x =>
    simp only [pureO, pureX, convF, ev1F_eq]
    cases hx : st.ev1 x with
    | none => simp only
    | some a =>
      simp only
      cases convX E.P s d a <;> rfl
  | fieldAddr t x f =>
    have h : pureX E.P st ⟨dst, .fieldAddr t x f, type, pos, after, guard⟩ = faF st E.P t x f := by
      simp only [pureX, faF, evcF_eq]
      try rfl
    unfold pureO
    rw [h]
    show faF st E.P t x f = _
    cases faF st E.P t x f <;> rfl
  | indexAddr t x i =>
    have h : pureX E.P st ⟨dst, .indexAddr t x i, type, pos, after, guard⟩ = iaF st E.P t x i := by
      simp only [pureX, iaF, atF, evcF_eq]
      try rfl
    unfold pureO
    rw [h]
    show iaF st E.P t x i = _
    cases iaF st E.P t x i <;> rfl
  | extract t i =>
    have h : pureX E.P st ⟨dst, .extract t i, type, pos, after, guard⟩ = exF st t i := by
      simp only [pureX, exF, nthV, evF_eq]
      try rfl
    unfold pureO
    rw [h]
    show exF st t i = _
    cases exF st t i <;> rfl
  | _ => rfl
end
end Go.Ry
namespace Go.Ry
open Go Go.RowKit

/-! ### Writing -/
section
variable {β : Type}
/-- A number, worked out. -/
noncomputable def nowN (n : Nat) (k : Nat → β) : β := Nat.rec (motive := fun _ => β) (k 0) (fun m _ => k (Nat.succ m)) n
theorem nowN_eq (n : Nat) (k : Nat → β) : nowN n k = k n := by cases n <;> rfl
noncomputable def pushK (m : Mem) (b : Blk) (k : Mem → β) : β := Mem.rec (motive := fun _ => β) (fun hp hn wr => insK b hp hn fun hp => nowN (Nat.succ hn) fun hn => k ⟨hp, hn, wr⟩) m
theorem pushK_eq (m : Mem) (b : Blk) (k : Mem → β) : pushK m b k = k (m.push b) := by
  obtain ⟨hp, hn, wr⟩ := m
  show insK b hp hn (fun hp => nowN (Nat.succ hn) fun hn => k ⟨hp, hn, wr⟩) = _
  rw [insK_eq, nowN_eq]; rfl
noncomputable def updK (m : Mem) (i : Nat) (b : Blk) (k : Mem → β) : β :=
  Mem.rec (motive := fun _ => β) (fun hp hn wr => setK b hp i fun hp => Bool.rec (k ⟨hp, hn, wr⟩) (k ⟨hp, hn, i⟩) (Nat.ble i wr)) m
theorem updK_eq (m : Mem) (i : Nat) (b : Blk) (k : Mem → β) : updK m i b k = k (m.upd i b) := by
  obtain ⟨hp, hn, wr⟩ := m
  show setK b hp i (fun hp => (Bool.rec (k ⟨hp, hn, wr⟩) (k ⟨hp, hn, i⟩) (Nat.ble i wr) : β)) = _
  rw [setK_eq]
  show sel (Nat.ble i wr) (k ⟨hp.set i b, hn, i⟩) (k ⟨hp.set i b, hn, wr⟩) = _
  unfold Mem.upd
  cases Nat.ble i wr <;> rfl
noncomputable def putK (st : St) (m : Mem) (d : Option Tmp) (v : V) (k : St → β) : β :=
  St.rec (motive := fun _ => β) (fun tm _ ds => Option.rec (motive := fun _ => β) (k ⟨tm, m, ds⟩) (fun t => setK v tm t fun tm => k ⟨tm, m, ds⟩) d) st
theorem putK_eq (st : St) (m : Mem) (d : Option Tmp) (v : V) (k : St → β) : putK st m d v k = k (St.put ⟨st.tm, m, st.ds⟩ d v) := by
  obtain ⟨tm, m0, ds⟩ := st
  cases d with
  | none => rfl
  | some t =>
    show setK v tm t (fun tm => k ⟨tm, m, ds⟩) = _
    rw [setK_eq]; rfl
end

section
variable (E : Env) (run : Runs) (st : St)
noncomputable def storeF (P : Program) (t : TypeId) (a x : Operand) : Option (V × Mem) :=
  match evcF st a, ev1F st x, sizeX P t with
  | some (.ptr b o), some y, some s => bif Nat.beq y.cells.length s && oneCells y.cells then
      (match getR st.m.hp b with
      | some (.cells l e) => putAtK y.cells l o fun l' => updK st.m b (.cells l' e) fun m => some (.tup [], m)
      | _ => none) else none
  | _, _, _ => none
noncomputable def boxF (t : TypeId) (x : Operand) : Option (V × Mem) :=
  match ev1F st x with
  | some y => pushK st.m (.cells y.cells t) fun m => some (.s (.one (.ptr st.m.hn 0)), m)
  | none => none
noncomputable def allocF (P : Program) (t : TypeId) : Option (V × Mem) :=
  match zeroX P t with
  | some z => pushK st.m (.cells z t) fun m => some (.s (.one (.ptr st.m.hn 0)), m)
  | none => none
noncomputable def argsK {β : Type} (xs : List Operand) : (List V1 → Option β) → Option β :=
  List.rec (motive := fun _ => (List V1 → Option β) → Option β) (fun k => k []) (fun x _ ih k => match ev1F st x with | some y => ih fun l => k (y :: l) | none => none) xs
theorem argsK_eq {β : Type} (xs : List Operand) : ∀ (k : List V1 → Option β), argsK st xs k = match argsX st xs with | some l => k l | none => none := by
  induction xs with
  | nil => intro k; rfl
  | cons x xs ih =>
    intro k
    show (match ev1F st x with | some y => argsK st xs fun l => k (y :: l) | none => none) = _
    rw [ev1F_eq]
    simp only [argsX]
    cases st.ev1 x with
    | none => rfl
    | some y =>
      simp only
      rw [ih]
      cases argsX st xs <;> rfl
noncomputable def callF (f : Operand) (args : Array Operand) : Option (V × Mem) :=
  match evcF st f with
  | some (.fn f fs caps) => argsK st args.toList fun l =>
    (fun all => match E.ext f all with
    | some v => some (v, st.m)
    | none => match E.sum f all with
      | some v => some (v, st.m)
      | none => run true f all st.m) (fstPtrs fs ++ (l ++ capPtrs caps))
  | some (.yl b) => argsK st args.toList fun l => run false b l st.m
  | _ => none
theorem callF_eq (f : Operand) (args : Array Operand) : callF E run st f args = callX E run st f args := by
  unfold callF callX
  rw [evcF_eq]
  cases st.evc f with
  | none => rfl
  | some c =>
    cases c with
    | fn f fs caps =>
      simp only
      rw [argsK_eq]
      cases argsX st args.toList <;> rfl
    | yl b =>
      simp only
      rw [argsK_eq]
      cases argsX st args.toList <;> rfl
    | _ => rfl
noncomputable def opF (o : Oper) : Option (V × Mem) :=
  match o.op with
  | .store t a x => storeF st E.P t a x
  | .box t x => boxF st t x
  | .alloc t => allocF st E.P t
  | .call { callee := .value f, args, .. } => callF E run st f args
  | _ => match pureF E st o with
    | some v => some (v, st.m)
    | none => opX E run st o
theorem opF_eq (o : Oper) : opF E run st o = opX E run st o := by
  unfold opF
  split
  · rename_i t a x hop
    unfold opX pureO pureX orcX actX memX storeF
    simp only [hop, evcF_eq, ev1F_eq]
    cases st.evc a with
    | none => rfl
    | some c =>
      cases c with
      | ptr b o =>
        cases st.ev1 x with
        | none => rfl
        | some y =>
          cases sizeX E.P t with
          | none => rfl
          | some s =>
            simp only
            cases Nat.beq y.cells.length s && oneCells y.cells with
            | false => rfl
            | true =>
              simp only [cond_true]
              rw [getR_eq]
              cases st.m.hp.get b with
              | none => rfl
              | some k =>
                cases k with
                | cells l e =>
                  simp only
                  rw [putAtK_eq]
                  cases putAt l o y.cells with
                  | none => rfl
                  | some l' => simp only [updK_eq]; rfl
                | _ => rfl
      | _ => rfl
  · rename_i t x hop
    unfold opX pureO pureX orcX actX memX boxF
    simp only [hop, ev1F_eq]
    cases st.ev1 x with
    | none => rfl
    | some y => simp only [pushK_eq]
  · rename_i t hop
    unfold opX pureO pureX orcX actX memX allocF
    simp only [hop]
    cases zeroX E.P t with
    | none => rfl
    | some z => simp only [pushK_eq]
  · rename_i f args ts hop
    unfold opX pureO pureX orcX actX
    simp only [hop]
    exact callF_eq E run st f args
  · rw [pureF_eq]
    unfold opX
    cases pureO E st o <;> rfl
end

/-! ### Regions -/
section
variable (E : Env) (run : Runs)
noncomputable def wantF (ops : Array Oper) (st : St) (o : Oper) : Bool :=
  match o.guard with
  | none => true
  | some _ => wantedX ops st o
theorem wantF_eq (ops : Array Oper) (st : St) (o : Oper) : wantF ops st o = wantedX ops st o := by
  unfold wantF
  cases h : o.guard with
  | none => simp [wantedX, h]
  | some g => rfl
noncomputable def opsF (ops : Array Oper) (l : List Oper) : St → Option St :=
  List.rec (motive := fun _ => St → Option St) (fun st => some st)
    (fun o _ ih st => Bool.rec (putK st st.m o.dst (.tup []) ih) (match opF E run st o with | some (v, m) => putK st m o.dst v ih | none => none) (wantF ops st o)) l
theorem opsF_eq (ops : Array Oper) (l : List Oper) : ∀ st, opsF E run ops l st = opsX E run ops l st := by
  induction l with
  | nil => intro st; rfl
  | cons o l ih =>
    intro st
    show sel (wantF ops st o) (match opF E run st o with | some (v, m) => putK st m o.dst v (opsF E run ops l) | none => none) (putK st st.m o.dst (.tup []) (opsF E run ops l)) = _
    rw [wantF_eq, opF_eq]
    simp only [opsX]
    cases wantedX ops st o with
    | true =>
      show (match opX E run st o with | some (v, m) => putK st m o.dst v (opsF E run ops l) | none => none) = _
      simp only [cond_true]
      cases opX E run st o with
      | none => rfl
      | some r => obtain ⟨v, m⟩ := r; simp only [putK_eq]; exact ih _
    | false =>
      show putK st st.m o.dst (.tup []) (opsF E run ops l) = _
      simp only [cond_false, putK_eq]
      exact ih _
noncomputable def looksF (st : St) (o : Oper) : Option (Option Nat) :=
  match o.op with
  | .load _ a => match evcF st a with
    | some (.ptr b _) => some (some b)
    | _ => some none
  | .lookup .. => looksAt st o
  | _ => none
theorem looksF_eq (st : St) (o : Oper) : looksF st o = looksAt st o := by
  obtain ⟨dst, op, type, pos, after, guard⟩ := o
  unfold looksF
  cases op with
  | load t a =>
    unfold looksAt
    simp only [evcF_eq]
    cases st.evc a with
    | none => rfl
    | some c => cases c <;> rfl
  | _ => rfl
noncomputable def floatF (ops : Array Oper) (hn0 : Nat) (st : St) (i : Nat) (o : Oper) : Option (V × Option Nat) :=
  Bool.rec (some (.tup [], none))
    (Bool.rec
      (match looksF st o with
      | none => match pureF E st o with
        | some v => some (v, none)
        | none => none
      | some (some b) => Bool.rec none (match pureF E st o with
        | some v => some (v, some b)
        | none => none) (Nat.blt b hn0)
      | some none => none)
      (some (allocV o (hn0 + rank ops i), none)) (isAlloc o)) (wantF ops st o)
theorem floatF_eq (ops : Array Oper) (hn0 : Nat) (st : St) (i : Nat) (o : Oper) : floatF E ops hn0 st i o = floatX E ops hn0 st i o := by
  unfold floatF floatX
  rw [wantF_eq, looksF_eq, pureF_eq]
  cases wantedX ops st o with
  | false => rfl
  | true =>
    cases isAlloc o with
    | true => rfl
    | false =>
      show (match looksAt st o with
        | none => (match pureO E st o with | some v => some (v, none) | none => none)
        | some (some b) => (Bool.rec none (match pureO E st o with | some v => some (v, some b) | none => none) (Nat.blt b hn0) : Option (V × Option Nat))
        | some none => none) = _
      simp only [cond_true, cond_false]
      cases looksAt st o with
      | none => cases pureO E st o <;> rfl
      | some b =>
        cases b with
        | none => rfl
        | some b =>
          simp only
          cases Nat.blt b hn0 with
          | false => rfl
          | true => cases pureO E st o <;> rfl
noncomputable def heavyF (hn0 : Nat) (bs : List (Nat × Nat)) (st : St) (o : Oper) : Option (V × Mem) :=
  match opF E run ⟨st.tm, ⟨st.m.hp, st.m.hn, st.m.hn⟩, st.ds⟩ o with
  | some (v, m) => bif spares hn0 bs st o m.wr then nowN st.m.wr (fun w => Mem.rec (motive := fun _ => Option (V × Mem)) (fun hp hn wr => Bool.rec (motive := fun _ => Option (V × Mem)) (some (v, ⟨hp, hn, wr⟩)) (some (v, ⟨hp, hn, w⟩)) (Nat.ble w wr)) m) else none
  | none => none
theorem heavyF_eq (hn0 : Nat) (bs : List (Nat × Nat)) (st : St) (o : Oper) : heavyF E run hn0 bs st o = heavyX E run hn0 bs st o := by
  unfold heavyF heavyX
  rw [opF_eq]
  cases opX E run ⟨st.tm, ⟨st.m.hp, st.m.hn, st.m.hn⟩, st.ds⟩ o with
  | none => rfl
  | some r =>
    obtain ⟨v, ⟨hp, hn, wr⟩⟩ := r
    dsimp only
    cases spares hn0 bs st o wr with
    | false => rfl
    | true =>
      simp only [cond_true]
      rw [nowN_eq]
      cases Nat.ble st.m.wr wr <;> rfl
noncomputable def drawF (ops : Array Oper) (hn0 : Nat) (p : Plan) : List (Nat × Nat) → St → Option St :=
  Plan.rec (motive := fun _ => List (Nat × Nat) → St → Option St) (fun _ st => some st) (fun _ _ => none)
    (fun i o f h _ ih bs st => match floatF E ops hn0 st i o with
      | some (v, b) => Bool.rec (Bool.rec none (putK st st.m o.dst v fun st => ih bs st) h) (putK st st.m o.dst v fun st => ih (withLook i b bs) st) f
      | none => Bool.rec none (match heavyF E run hn0 bs st o with
        | some (v, m) => putK st m o.dst v fun st => ih bs st
        | none => none) h) p
theorem drawF_eq (ops : Array Oper) (hn0 : Nat) (p : Plan) : ∀ bs st, drawF E run ops hn0 p bs st = drawP E run ops hn0 p bs st := by
  induction p with
  | done => intro bs st; rfl
  | fail => intro bs st; rfl
  | step i o f h p ih =>
    intro bs st
    show (match floatF E ops hn0 st i o with
      | some (v, b) => (Bool.rec (Bool.rec none (putK st st.m o.dst v fun st => drawF E run ops hn0 p bs st) h) (putK st st.m o.dst v fun st => drawF E run ops hn0 p (withLook i b bs) st) f : Option St)
      | none => (Bool.rec none (match heavyF E run hn0 bs st o with
        | some (v, m) => putK st m o.dst v fun st => drawF E run ops hn0 p bs st
        | none => none) h : Option St)) = _
    rw [floatF_eq, heavyF_eq]
    simp only [drawP]
    cases floatX E ops hn0 st i o with
    | some r =>
      obtain ⟨v, b⟩ := r
      simp only [putK_eq, ih]
      cases f with
      | true => rfl
      | false => cases h <;> rfl
    | none =>
      cases h with
      | false => rfl
      | true =>
        simp only [cond_true]
        cases heavyX E run hn0 bs st o with
        | none => rfl
        | some r => obtain ⟨v, m⟩ := r; simp only [putK_eq, ih]
end

/-! ### Code -/
section
variable (E : Env)
abbrev Reader := Code → St → Option (Ex × St)
noncomputable def seqF (rec : Reader) (a b : Code) (st : St) : Option (Ex × St) :=
  match rec a st with
  | some (.normal, st') => rec b st'
  | r => r
noncomputable def condF (rec : Reader) (x : Operand) (a b : Code) (st : St) : Option (Ex × St) :=
  match evcF st x with
  | some (.v (.bool t)) => Bool.rec (rec b st) (rec a st) t
  | _ => none
noncomputable def blockF (rec : Reader) (id : Nat) (b : Code) (st : St) : Option (Ex × St) :=
  match rec b st with
  | some (.exit i, st') => bif Nat.beq i id then some (.normal, st') else some (.exit i, st')
  | r => r
noncomputable def loopF (rec : Reader) (b : Code) (st : St) : Option (Ex × St) :=
  match rec b st with
  | some (.normal, st') => rec (.loop b) st'
  | r => r
def normF : Option St → Option (Ex × St)
  | some st => some (.normal, st)
  | none => none
noncomputable def regionF (run : Runs) (ops : Array Oper) (st : St) : Option (Ex × St) := normF (opsF E run ops ops.toList st)
noncomputable def regionD (run : Runs) (ops : Array Oper) (st : St) : Option (Ex × St) :=
  match aside E.P ops.toList st.m with
  | some m => match drawF E run ops st.m.hn (planX ops) [] ⟨st.tm, m, st.ds⟩ with
    | some st' => some (.normal, st')
    | none => normF (drawX E run ops st.m.hn ops.size (Array.replicate ops.size false) [] ⟨st.tm, m, st.ds⟩)
  | none => none
noncomputable def rangeF (run : Runs) (g : Operand) (ps : Array Tmp) (assign body : Code) (st : St) : Option (Ex × St) :=
  match evcF st g with
  | some (.fn f fs caps) =>
    pushK st.m .dfr fun m1 => pushK m1 (.loop .ready none st.tm ps.toList assign body) fun m2 => (fun l =>
    match run true f (fstPtrs fs ++ (.one (.yl l) :: capPtrs caps)) m2 with
    | some (_, m) => match getR m.hp l with
      | some (.loop s pend tm' ps' as' bo') => match s with
        | .busy => none
        | _ => updK m l (.loop .exhausted pend tm' ps' as' bo') fun m => some (pendX pend, ⟨st.tm, m, st.m.hn :: st.ds⟩)
      | _ => none
    | none => none) m1.hn
  | _ => none
theorem rangeF_eq (run : Runs) (g : Operand) (ps : Array Tmp) (assign body : Code) (st : St) : rangeF run g ps assign body st = (match st.evc g with
      | some (.fn f fs caps) =>
        let m1 := st.m.push .dfr
        let l := m1.hn
        match run true f (fstPtrs fs ++ (.one (.yl l) :: capPtrs caps)) (m1.push (.loop .ready none st.tm ps.toList assign body)) with
        | some (_, m) => match m.hp.get l with
          | some (.loop s pend tm' ps' as' bo') => match s with
            | .busy => none
            | _ => some (pendX pend, ⟨st.tm, m.upd l (.loop .exhausted pend tm' ps' as' bo'), st.m.hn :: st.ds⟩)
          | _ => none
        | none => none
      | _ => none) := by
  unfold rangeF
  rw [evcF_eq]
  cases st.evc g with
  | none => rfl
  | some c =>
    cases c with
    | fn f fs caps =>
      dsimp only
      rw [pushK_eq, pushK_eq]
      cases run true f (fstPtrs fs ++ (.one (.yl (st.m.push .dfr).hn) :: capPtrs caps)) ((st.m.push .dfr).push (.loop .ready none st.tm ps.toList assign body)) with
      | none => rfl
      | some r =>
        obtain ⟨v, m⟩ := r
        dsimp only
        rw [getR_eq]
        cases m.hp.get (st.m.push .dfr).hn with
        | none => rfl
        | some k =>
          cases k with
          | loop s pend tm' ps' as' bo' => cases s <;> simp only [updK_eq]
          | _ => rfl
    | _ => rfl
noncomputable def stepF (run : Runs) (rec : Reader) (rd : Bool) (c : Code) (st : St) : Option (Ex × St) :=
  match c with
  | .skip => some (.normal, st)
  | .label _ => some (.normal, st)
  | .ret => some (.ret, st)
  | .exit id => some (.exit id, st)
  | .seq a b => seqF rec a b st
  | .cond x a b => condF rec x a b st
  | .block id b => blockF rec id b st
  | .loop b => loopF rec b st
  | .scope b => bif rd then none else rec b st
  | .region _ ops false => regionF E run ops st
  | .region _ ops true => regionD E run ops st
  | .rangeFunc g ps assign body => bif rd then none else rangeF run g ps assign body st
  | _ => none
noncomputable def argsPutK {β : Type} (l : List V1) : Nat → Tr V → (Tr V → Option β) → Option β :=
  List.rec (motive := fun _ => Nat → Tr V → (Tr V → Option β) → Option β) (fun _ t k => k t) (fun x _ ih i t k => setK (.s x) t i fun t => ih (i + 1) t k) l
theorem argsPutK_eq {β : Type} (l : List V1) : ∀ i t (k : Tr V → Option β), argsPutK l i t k = k (putArgs l i t) := by
  induction l with
  | nil => intro i t k; rfl
  | cons x l ih =>
    intro i t k
    show (setK (.s x) t i fun t => argsPutK l (i + 1) t k) = _
    rw [setK_eq, ih]
    rfl
noncomputable def enterF {β : Type} (fn : Func) (args : List V1) (k : Tr V → Option β) : Option β :=
  bif Nat.ble args.length fn.ntmps && Nat.ble fn.ntmps 1000000 then argsPutK args 0 (Tr.mk 20 fn.ntmps (.tup [])) k else none
theorem enterF_eq {β : Type} (fn : Func) (args : List V1) (k : Tr V → Option β) : enterF fn args k = match enterX fn args with | some tm => k tm | none => none := by
  unfold enterF enterX
  cases Nat.ble args.length fn.ntmps && Nat.ble fn.ntmps 1000000 with
  | false => rfl
  | true => simp only [cond_true, argsPutK_eq]
noncomputable def bodyF (P : Program) (f : FuncId) : Option (Func × Code) :=
  match P.funcs[f]? with
  | some fn => match fn.body with
    | some b => some (fn, b)
    | none => none
  | none => none
noncomputable def putZipK {β : Type} (ps : List Tmp) : List V1 → Tr V → (Tr V → β) → β :=
  List.rec (motive := fun _ => List V1 → Tr V → (Tr V → β) → β) (fun _ t k => k t) (fun p _ ih xs t k => List.rec (motive := fun _ => β) (k t) (fun x xs _ => setK (.s x) t p fun t => ih xs t k) xs) ps
theorem putZipK_eq {β : Type} (ps : List Tmp) : ∀ xs t (k : Tr V → β), putZipK ps xs t k = k (roundX.putZip ps xs t) := by
  induction ps with
  | nil => intro xs t k; cases xs <;> rfl
  | cons p ps ih =>
    intro xs t k
    cases xs with
    | nil => rfl
    | cons x xs =>
      show setK (.s x) t p (fun t => putZipK ps xs t k) = _
      rw [setK_eq, ih]
      rfl
noncomputable def roundF (code : Reader) (b : Nat) (args : List V1) (m : Mem) : Option (V × Mem) :=
  match getR m.hp b with
  | some (.loop .ready none tm ps assign body) => bif Nat.beq args.length ps.length then
      putZipK ps args tm fun t => match code assign ⟨t, m, []⟩ with
      | some (.normal, st1) => match getR st1.m.hp b with
        | some (.loop .ready none tm1 ps1 as1 bo1) => updK st1.m b (.loop .busy none tm1 ps1 as1 bo1) fun m1 => match code body ⟨st1.tm, m1, st1.ds⟩ with
          | some (ex, st2) => match getR st2.m.hp b with
            | some (.loop _ _ tm2 ps2 as2 bo2) => updK st2.m b (.loop (stateX (jumpX ex)) (jumpX ex) tm2 ps2 as2 bo2) fun m2 => some (vb (jumpX ex).isNone, m2)
            | _ => none
          | none => none
        | _ => none
      | _ => none
    else none
  | _ => none
theorem roundF_eq (code : Reader) (b : Nat) (args : List V1) (m : Mem) : roundF code b args m = roundX code b args m := by
  unfold roundF roundX
  simp only [getR_eq, putZipK_eq, updK_eq]
  rfl
noncomputable def runF (P : Program) (code inner : Reader) : Runs := fun isF f args m =>
  Bool.rec (roundF inner f args m)
    (match bodyF P f with
    | some (fn, body) => enterF fn args fun tm => endX P fn (code body ⟨tm, m, []⟩)
    | none => none) isF
theorem runF_eq (P : Program) (code inner : Reader) : runF P code inner = runX P code inner := by
  funext isF f args m
  unfold runF runX
  cases isF with
  | false => exact roundF_eq inner f args m
  | true =>
    show (match bodyF P f with
    | some (fn, body) => enterF fn args fun tm => endX P fn (code body ⟨tm, m, []⟩)
    | none => none) = _
    simp only [cond_true]
    unfold bodyF
    cases P.funcs[f]? with
    | none => rfl
    | some fn =>
      simp only
      cases fn.body with
      | none => rfl
      | some body =>
        simp only [enterF_eq]
        cases enterX fn args <;> rfl
noncomputable def codeF (n : Nat) : Bool → Reader :=
  Nat.rec (motive := fun _ => Bool → Reader) (fun _ _ _ => none) (fun _ ih rd c st => stepF E (runF E.P (ih false) (ih true)) (ih rd) rd c st) n
theorem normF_eq (x : Option St) : normF x = x.map fun st' => (Ex.normal, st') := by cases x <;> rfl
theorem codeF_eq : ∀ n rd c st, codeF E n rd c st = codeX E rd n c st
  | 0, rd, c, st => rfl
  | n + 1, rd, c, st => by
    have ih : ∀ rd, codeF E n rd = codeX E rd n := fun rd => by funext c st; exact codeF_eq n rd c st
    show stepF E (runF E.P (codeF E n false) (codeF E n true)) (codeF E n rd) rd c st = _
    rw [ih, ih, ih, runF_eq]
    unfold stepF
    conv => rhs; unfold codeX
    cases c with
    | cond x a b =>
      simp only [condF, evcF_eq]
      cases st.evc x with
      | none => rfl
      | some c =>
        cases c with
        | v x => cases x with
          | bool t => cases t <;> rfl
          | _ => rfl
        | _ => rfl
    | seq a b =>
      simp only [seqF]
      cases codeX E rd n a st with
      | none => rfl
      | some r => obtain ⟨e, st'⟩ := r; cases e <;> rfl
    | block id b =>
      simp only [blockF]
      cases codeX E rd n b st with
      | none => rfl
      | some r => obtain ⟨e, st'⟩ := r; cases e <;> rfl
    | loop b =>
      simp only [loopF]
      cases codeX E rd n b st with
      | none => rfl
      | some r => obtain ⟨e, st'⟩ := r; cases e <;> rfl
    | region id ops d =>
      cases d with
      | false => simp only [regionF, opsF_eq, normF_eq]
      | true =>
        simp only [regionD, drawF_eq, normF_eq]
        cases aside E.P ops.toList st.m with
        | none => rfl
        | some m =>
          simp only
          cases drawP E (runX E.P (codeX E false n) (codeX E true n)) ops st.m.hn (planX ops) [] ⟨st.tm, m, st.ds⟩ <;> rfl
    | rangeFunc g ps as bo =>
      cases rd with
      | true => rfl
      | false => simp only [cond_false]; exact rangeF_eq _ g ps as bo st
    | _ => rfl
noncomputable def funF (fuel : Nat) : FuncId → List V1 → Mem → Option (V × Mem) := runF E.P (codeF E fuel false) (codeF E fuel true) true
theorem funF_eq (fuel : Nat) : funF E fuel = funX E fuel := by
  unfold funF funX
  rw [runF_eq]
  have h : ∀ rd, codeF E fuel rd = codeX E rd fuel := fun rd => by funext c st; exact codeF_eq E fuel rd c st
  rw [h, h]
end
/-- One row of a table, by one run. -/
theorem row_knownF {E : Env} (hE : ∀ W, EnvOk E W) {fuel : Nat} {r : Row} (h : (r.l.all bare1 && bareV r.v && isRun r (funF E fuel r.f r.l ⟨.e, 0, 0⟩)) = true) : Known E.P r.f r.l r.v :=
  row_known hE (fuel := fuel) (by rw [funF_eq] at h; exact h)
end Go.Ry
