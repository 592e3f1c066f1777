/-
  THE RUNNER, put to use: what a run of the runner says of a call; tables of calls that are known.
  THE RUNNER, FASTER: the same functions, said so that the kernel reckons them sooner; each is the elder one.
  THE RUNNER, FASTER, part 2: operations, regions, code.
  THE RUNNER: memory turned from one numbering to another; calls that are known in a memory of their own.
-/
import Derived.Test.YtjjibclfmknblabGreatMRK
set_option linter.all false
namespace Go.Ry
open Go Go.RowKit

def noLoc (val : Lets) : Loc' := ⟨fun _ => none, fun _ => 0, val, #[]⟩
theorem MemRel.empty (w : World) (own : Nat → Prop) (val : Lets) : MemRel ⟨w, own⟩ (noLoc val) ⟨.e, 0, 0⟩ w := ⟨BelowB.refl _ _, fun b r h => (by cases h), fun b b' r h => (by cases h), fun b r o h => (by cases h), fun i hi => absurd hi (Nat.not_lt_zero _)⟩

/-- A call of f at l hands back v, whatever the world; nothing that was there has turned. -/
def Known (P : Program) (f : FuncId) (l : List V1) (v : V) : Prop :=
  ∀ (ρ : Loc') (xs : List Value) (w : World), All2 (D1 ρ) l xs → (callFunc f xs.toArray).run P w = .ok (.enter f xs.toArray) w ∧
    Calls P f xs.toArray w fun e w' => ∃ x, e = .returned x ∧ DV ρ v x ∧ Below w.heap.size w w'

/-- Values without an address. -/
def bareC : C → Bool
  | .v _ => true
  | _ => false
def bare1 : V1 → Bool
  | .one c => bareC c
  | .agg l => l.all bareC
def bareV : V → Bool
  | .s x => bare1 x
  | .tup l => l.all bare1
section
variable {ρ ρ' : Loc'}
theorem bareC_any {c : C} {x : Value} (hb : bareC c = true) (h : DC ρ c x) : DC ρ' c x := by
  cases h with
  | v k => exact .v k
  | _ => cases hb
theorem All2.any {α β : Type} {R S : α → β → Prop} {p : α → Bool} (h : ∀ a b, p a = true → R a b → S a b) : ∀ {l : List α} {m : List β}, l.all p = true → All2 R l m → All2 S l m
  | _, _, _, .nil => .nil
  | _, _, hp, .cons x y => by
    simp only [List.all_cons, Bool.and_eq_true] at hp
    exact .cons (h _ _ hp.1 x) (All2.any h hp.2 y)
theorem bare1_any {c : V1} {x : Value} (hb : bare1 c = true) (h : D1 ρ c x) : D1 ρ' c x := by
  cases h with
  | one k => exact .one (bareC_any hb k)
  | agg k => exact .agg (k.any (fun _ _ => bareC_any) hb)
theorem bareV_any {c : V} {x : Value} (hb : bareV c = true) (h : DV ρ c x) : DV ρ' c x := by
  cases h with
  | s k => exact .s (bare1_any hb k)
  | tup k => exact .tup (k.any (fun _ _ => bare1_any) hb)
  | any k => exact .any k
end

theorem known_of_run {E : Env} (hE : ∀ W, EnvOk E W) (horc : ∀ i, E.orc i = none) {fuel : Nat} {f : FuncId} {l : List V1} {v : V} (hl : l.all bare1 = true) (hv : bareV v = true)
    (h : (funX E fuel f l ⟨.e, 0, 0⟩).map (·.1) = some v) : Known E.P f l v := by
  intro ρ xs w hx
  simp only [Option.map_eq_some_iff] at h
  obtain ⟨⟨v', m'⟩, h, rfl⟩ := h
  have hx' : All2 (D1 (noLoc E.val)) l xs := hx.any (fun _ _ => bare1_any) hl
  have hR := run_ok (hE (.of w)) (code_ok (hE (.of w)) horc fuel none) (fun b => code_ok (hE (.of w)) horc fuel (some b))
  obtain ⟨h1, h2⟩ := hR.calls f l _ _ _ h (noLoc E.val) xs w rfl hx' (MemRel.empty w (fun _ => False) _)
  refine ⟨h1, h2.mono fun e w' he => ?_⟩
  obtain ⟨x, ρ', rfl, _, _, h5, h6⟩ := he
  exact ⟨x, rfl, bareV_any hv h5, BelowB.below h6.below⟩

/-! ### Alike -/
def eq1 : V1 → V1 → Bool
  | .one c, .one d => eqC c d
  | .agg l, .agg m => eqL eqC l m
  | _, _ => false
theorem eq1_eq (c d : V1) (h : eq1 c d = true) : c = d := by
  cases c <;> cases d <;> try (cases h; done)
  · rw [eqC_eq h]
  · rw [eqL_eq (fun _ _ => eqC_eq) h]

/-- A table of calls that are known. -/
structure Row where
  f : FuncId
  l : List V1
  v : V
def sumOf : List Row → FuncId → List V1 → Option V
  | [], _, _ => none
  | r :: rs, f, l => bif Nat.beq r.f f && eqL eq1 r.l l then some r.v else sumOf rs f l
theorem sumOf_known {P : Program} : ∀ {rs : List Row}, (∀ r ∈ rs, Known P r.f r.l r.v) → ∀ {f : FuncId} {l : List V1} {v : V}, sumOf rs f l = some v → Known P f l v
  | [], _, f, l, v, h => by cases h
  | r :: rs, hr, f, l, v, h => by
    simp only [sumOf] at h
    cases hc : Nat.beq r.f f && eqL eq1 r.l l with
    | true =>
      rw [hc] at h
      simp only [cond_true, Option.some.injEq] at h
      subst h
      simp only [Bool.and_eq_true] at hc
      have h1 := beq_t hc.1
      have h2 := eqL_eq eq1_eq hc.2
      subst h1; subst h2
      exact hr r (by simp)
    | false =>
      rw [hc] at h
      exact sumOf_known (fun r hm => hr r (by simp [hm])) h

/-- The whole of a result, alike. -/
def eqV : V → V → Bool
  | .s x, .s y => eq1 x y
  | .tup l, .tup m => eqL eq1 l m
  | _, _ => false
theorem eqV_eq {c d : V} (h : eqV c d = true) : c = d := by
  cases c <;> cases d <;> try (cases h; done)
  · rw [eq1_eq _ _ h]
  · rw [eqL_eq eq1_eq h]
def isRun (r : Row) (o : Option (V × Mem)) : Bool :=
  match o with
  | some (v, _) => eqV v r.v
  | none => false
/-- One row of a table, by one run. -/
theorem row_known {E : Env} (hE : ∀ W, EnvOk E W) (horc : ∀ i, E.orc i = none) {fuel : Nat} {r : Row} (h : (r.l.all bare1 && bareV r.v && isRun r (funX E fuel r.f r.l ⟨.e, 0, 0⟩)) = true) : Known E.P r.f r.l r.v := by
  simp only [Bool.and_eq_true] at h
  obtain ⟨⟨h1, h2⟩, h3⟩ := h
  refine known_of_run hE horc (fuel := fuel) h1 h2 ?_
  unfold isRun at h3
  split at h3
  · rename_i v m hm
    rw [hm]
    simp only [Option.map_some]
    rw [eqV_eq h3]
  · cases h3
end Go.Ry
namespace Go.Ry
open Go Go.RowKit

noncomputable def sel {γ : Type} (c : Bool) (t e : γ) : γ := Bool.rec e t c
/-! ### Tables -/
section
variable {α β : Type}
noncomputable def getJ (t : Tr α) : Nat → Option α :=
  Tr.rec (motive := fun _ => Nat → Option α) (fun _ => none)
    (fun _ x _ gl gr j => Bool.rec (motive := fun _ => Option α) (Nat.rec (motive := fun _ => Option α) (gl (Nat.div j 2)) (fun _ _ => gr (Nat.div j 2)) (Nat.mod j 2)) (some x) (Nat.beq j 1)) t
noncomputable def getR (t : Tr α) (i : Nat) : Option α := getJ t (Nat.succ i)
theorem odd_step {i : Nat} (h : Nat.beq (Nat.mod i 2) 1 = true) : Nat.mod (i + 1) 2 = 0 ∧ Nat.div (i + 1) 2 = Nat.succ (Nat.div i 2) := by
  have h1 : i % 2 = 1 := beq_t h
  constructor
  · show (i + 1) % 2 = 0; omega
  · show (i + 1) / 2 = i / 2 + 1; omega
theorem even_step {i : Nat} (h0 : Nat.beq i 0 = false) (h : Nat.beq (Nat.mod i 2) 1 = false) : Nat.mod (i + 1) 2 = 1 ∧ Nat.div (i + 1) 2 = Nat.succ (Nat.sub (Nat.div i 2) 1) := by
  have h1 : ¬ i % 2 = 1 := beq_f h
  have h2 : i ≠ 0 := beq_f h0
  constructor
  · show (i + 1) % 2 = 1; omega
  · show (i + 1) / 2 = i / 2 - 1 + 1; omega
theorem getR_eq (t : Tr α) : ∀ i, getR t i = t.get i := by
  induction t with
  | e => intro i; rfl
  | n l x r ihl ihr =>
    intro i
    show (sel (Nat.beq i 0) (some x) (Nat.rec (motive := fun _ => Option α) (getJ l (Nat.div (i + 1) 2)) (fun _ _ => getJ r (Nat.div (i + 1) 2)) (Nat.mod (i + 1) 2))) = _
    simp only [Tr.get]
    cases h0 : Nat.beq i 0 with
    | true => rfl
    | false =>
      cases h1 : Nat.beq (Nat.mod i 2) 1 with
      | true => rw [(odd_step h1).1, (odd_step h1).2]; exact ihl _
      | false => rw [(even_step h0 h1).1, (even_step h0 h1).2]; exact ihr _
noncomputable def setJ (y : α) (t : Tr α) : Nat → (Tr α → β) → β :=
  Tr.rec (motive := fun _ => Nat → (Tr α → β) → β) (fun _ k => k .e)
    (fun l x r sl sr j k => Bool.rec (motive := fun _ => β) (Nat.rec (motive := fun _ => β) (sl (Nat.div j 2) fun l' => k (.n l' x r)) (fun _ _ => sr (Nat.div j 2) fun r' => k (.n l x r')) (Nat.mod j 2)) (k (.n l y r)) (Nat.beq j 1)) t
noncomputable def setK (y : α) (t : Tr α) (i : Nat) (k : Tr α → β) : β := setJ y t (Nat.succ i) k
theorem setK_eq (y : α) (t : Tr α) : ∀ i (k : Tr α → β), setK y t i k = k (t.set i y) := by
  induction t with
  | e => intro i k; rfl
  | n l x r ihl ihr =>
    intro i k
    show (sel (Nat.beq i 0) (k (.n l y r)) (Nat.rec (motive := fun _ => β) (setJ y l (Nat.div (i + 1) 2) fun l' => k (.n l' x r)) (fun _ _ => setJ y r (Nat.div (i + 1) 2) fun r' => k (.n l x r')) (Nat.mod (i + 1) 2))) = _
    simp only [Tr.set]
    cases h0 : Nat.beq i 0 with
    | true => rfl
    | false =>
      cases h1 : Nat.beq (Nat.mod i 2) 1 with
      | true => rw [(odd_step h1).1, (odd_step h1).2]; exact ihl _ _
      | false => rw [(even_step h0 h1).1, (even_step h0 h1).2]; exact ihr _ _
noncomputable def insJ (y : α) (t : Tr α) : Nat → (Tr α → β) → β :=
  Tr.rec (motive := fun _ => Nat → (Tr α → β) → β) (fun j k => Bool.rec (motive := fun _ => β) (k .e) (k (.n .e y .e)) (Nat.beq j 1))
    (fun l x r sl sr j k => Bool.rec (motive := fun _ => β) (Nat.rec (motive := fun _ => β) (sl (Nat.div j 2) fun l' => k (.n l' x r)) (fun _ _ => sr (Nat.div j 2) fun r' => k (.n l x r')) (Nat.mod j 2)) (k (.n l y r)) (Nat.beq j 1)) t
noncomputable def insK (y : α) (t : Tr α) (i : Nat) (k : Tr α → β) : β := insJ y t (Nat.succ i) k
theorem insK_eq (y : α) (t : Tr α) : ∀ i (k : Tr α → β), insK y t i k = k (t.ins i y) := by
  induction t with
  | e =>
    intro i k
    show (sel (Nat.beq i 0) (k (.n .e y .e)) (k .e)) = _
    simp only [Tr.ins]
    cases Nat.beq i 0 <;> rfl
  | n l x r ihl ihr =>
    intro i k
    show (sel (Nat.beq i 0) (k (.n l y r)) (Nat.rec (motive := fun _ => β) (insJ y l (Nat.div (i + 1) 2) fun l' => k (.n l' x r)) (fun _ _ => insJ y r (Nat.div (i + 1) 2) fun r' => k (.n l x r')) (Nat.mod (i + 1) 2))) = _
    simp only [Tr.ins]
    cases h0 : Nat.beq i 0 with
    | true => rfl
    | false =>
      cases h1 : Nat.beq (Nat.mod i 2) 1 with
      | true => rw [(odd_step h1).1, (odd_step h1).2]; exact ihl _ _
      | false => rw [(even_step h0 h1).1, (even_step h0 h1).2]; exact ihr _ _
end

/-! ### Rows of cells -/
/-- The first n of a list, handed on once they lie there; none if there are fewer. -/
noncomputable def takeK {β : Type} (l : List C) : Nat → (List C → Option β) → Option β :=
  List.rec (motive := fun _ => Nat → (List C → Option β) → Option β) (fun n k => Bool.rec none (k []) (Nat.beq n 0))
    (fun x _ ih n k => Bool.rec (ih (Nat.sub n 1) fun r => k (x :: r)) (k []) (Nat.beq n 0)) l
noncomputable def takeAtK {β : Type} (l : List C) : Nat → Nat → (List C → Option β) → Option β :=
  List.rec (motive := fun _ => Nat → Nat → (List C → Option β) → Option β) (fun o n k => Bool.rec none (Bool.rec none (k []) (Nat.beq n 0)) (Nat.beq o 0))
    (fun x t ih o n k => Bool.rec (ih (Nat.sub o 1) n k) (takeK (x :: t) n k) (Nat.beq o 0)) l
theorem takeK_eq {β : Type} (l : List C) : ∀ n (k : List C → Option β), takeK l n k = bif Nat.ble n l.length then k (l.take n) else none := by
  induction l with
  | nil =>
    intro n k
    show (sel (Nat.beq n 0) (k []) (none)) = _
    cases n with
    | zero => rfl
    | succ n => rfl
  | cons x l ih =>
    intro n k
    show (sel (Nat.beq n 0) (k []) (takeK l (Nat.sub n 1) fun r => k (x :: r))) = _
    cases n with
    | zero => rfl
    | succ n =>
      show takeK l n (fun r => k (x :: r)) = _
      rw [ih]
      rfl
theorem takeAtK_eq {β : Type} (l : List C) : ∀ o n (k : List C → Option β), takeAtK l o n k = match takeAt l o n with | some r => k r | none => none := by
  induction l with
  | nil =>
    intro o n k
    show (sel (Nat.beq o 0) ((sel (Nat.beq n 0) (k []) (none))) (none)) = _
    unfold takeAt
    cases o with
    | zero => cases n <;> rfl
    | succ o =>
      have : Nat.ble (o + 1 + n) ([] : List C).length = false := by rw [Nat.add_right_comm]; rfl
      rw [this]; rfl
  | cons x l ih =>
    intro o n k
    show (sel (Nat.beq o 0) (takeK (x :: l) n k) (takeAtK l (Nat.sub o 1) n k)) = _
    cases o with
    | zero =>
      show takeK (x :: l) n k = _
      rw [takeK_eq]
      unfold takeAt
      rw [Nat.zero_add, List.drop_zero]
      cases Nat.ble n (x :: l).length <;> rfl
    | succ o =>
      show takeAtK l o n k = _
      rw [ih]
      unfold takeAt
      have : Nat.ble (o + 1 + n) (x :: l).length = Nat.ble (o + n) l.length := by rw [Nat.add_right_comm]; rfl
      rw [this]
      rfl
/-- cs is laid over the beginning of a list. -/
noncomputable def overK {β : Type} (cs : List C) : List C → (List C → Option β) → Option β :=
  List.rec (motive := fun _ => List C → (List C → Option β) → Option β) (fun l k => k l)
    (fun c _ ih l k => List.rec (motive := fun _ => Option β) none (fun _ t _ => ih t fun r => k (c :: r)) l) cs
/-- A halt on the road: the kernel comes back here before it goes on. -/
def mark {α : Type} (x : α) : α := x
noncomputable def putAtK {β : Type} (cs : List C) (l : List C) : Nat → (List C → Option β) → Option β :=
  List.rec (motive := fun _ => Nat → (List C → Option β) → Option β) (fun o k => Bool.rec none (overK cs [] k) (Nat.beq o 0))
    (fun x t ih o k => Bool.rec (mark (ih (Nat.sub o 1) fun r => mark (k (x :: r)))) (overK cs (x :: t) k) (Nat.beq o 0)) l
theorem overK_eq {β : Type} (cs : List C) : ∀ l (k : List C → Option β), overK cs l k = bif Nat.ble cs.length l.length then k (cs ++ l.drop cs.length) else none := by
  induction cs with
  | nil =>
    intro l k
    show k l = _
    rfl
  | cons c cs ih =>
    intro l k
    cases l with
    | nil => rfl
    | cons x l =>
      show overK cs l (fun r => k (c :: r)) = _
      rw [ih]
      rfl
theorem putAtK_eq {β : Type} (cs : List C) (l : List C) : ∀ o (k : List C → Option β), putAtK cs l o k = match putAt l o cs with | some r => k r | none => none := by
  induction l with
  | nil =>
    intro o k
    show (sel (Nat.beq o 0) (overK cs [] k) (none)) = _
    unfold putAt
    cases o with
    | zero =>
      show overK cs [] k = _
      rw [overK_eq, Nat.zero_add]
      cases Nat.ble cs.length ([] : List C).length <;> simp
    | succ o =>
      have : Nat.ble (o + 1 + cs.length) ([] : List C).length = false := by rw [Nat.add_right_comm]; rfl
      rw [this]; rfl
  | cons x l ih =>
    intro o k
    show (sel (Nat.beq o 0) (overK cs (x :: l) k) (putAtK cs l (Nat.sub o 1) fun r => k (x :: r))) = _
    cases o with
    | zero =>
      show overK cs (x :: l) k = _
      rw [overK_eq]
      unfold putAt
      rw [Nat.zero_add]
      cases Nat.ble cs.length (x :: l).length <;> rfl
    | succ o =>
      show putAtK cs l o (fun r => k (x :: r)) = _
      rw [ih]
      unfold putAt
      have : Nat.ble (o + 1 + cs.length) (x :: l).length = Nat.ble (o + cs.length) l.length := by rw [Nat.add_right_comm]; rfl
      rw [this]
      have e : o + 1 + cs.length = o + cs.length + 1 := by omega
      cases Nat.ble (o + cs.length) l.length with
      | false => rfl
      | true =>
        simp only [cond_true]
        rw [e]
        rfl
noncomputable def nthR (l : List C) : Nat → Option C :=
  List.rec (motive := fun _ => Nat → Option C) (fun _ => none) (fun x _ ih n => Bool.rec (ih (Nat.sub n 1)) (some x) (Nat.beq n 0)) l
theorem nthR_eq (l : List C) : ∀ n, nthR l n = l[n]? := by
  induction l with
  | nil => intro n; rfl
  | cons x l ih =>
    intro n
    show sel (Nat.beq n 0) (some x) (nthR l (Nat.sub n 1)) = _
    cases n with
    | zero => rfl
    | succ n =>
      show nthR l n = _
      rw [ih]; rfl

/-! ### Reads and reckonings -/
section
variable (E : Env) (st : St)
noncomputable def evF (x : Operand) : Option V :=
  match x with
  | .tmp t => getR st.tm t
  | x => st.eval x
theorem evF_eq (x : Operand) : evF st x = st.eval x := by
  cases x with
  | tmp t => exact getR_eq _ _
  | _ => rfl
noncomputable def ev1F (x : Operand) : Option V1 :=
  match evF st x with
  | some (.s y) => some y
  | _ => none
theorem ev1F_eq (x : Operand) : ev1F st x = st.ev1 x := by
  unfold ev1F St.ev1
  rw [evF_eq]
  cases st.eval x with
  | none => rfl
  | some v => cases v <;> rfl
noncomputable def evcF (x : Operand) : Option C :=
  match evF st x with
  | some (.s (.one c)) => some c
  | _ => none
theorem evcF_eq (x : Operand) : evcF st x = st.evc x := by
  unfold evcF St.evc
  rw [evF_eq]
  cases st.eval x with
  | none => rfl
  | some v => cases v with
    | s y => cases y <;> rfl
    | tup l => rfl
noncomputable def pickF (c a b : Operand) : Option V :=
  match evcF st c with
  | some (.v (.bool t)) => bif t then evF st a else evF st b
  | _ => none
noncomputable def partF (P : Program) (t : TypeId) (l : List C) (o : Nat) : Option V1 :=
  match isAggX P t with
  | some true => match sizeX P t with
    | some n => takeAtK l o n fun r => some (.agg r)
    | none => none
  | some false => match nthR l o with
    | some c => some (.one c)
    | none => none
  | none => none
theorem partF_eq (P : Program) (t : TypeId) (l : List C) (o : Nat) : partF P t l o = partX P t l o := by
  unfold partF partX
  cases isAggX P t with
  | none => rfl
  | some ag =>
    cases ag with
    | true =>
      cases sizeX P t with
      | none => rfl
      | some n =>
        simp only
        rw [takeAtK_eq]
        cases takeAt l o n <;> rfl
    | false =>
      simp only
      rw [nthR_eq]
      cases l[o]? <;> rfl
noncomputable def cellsF (P : Program) (m : Mem) (t : TypeId) (b o : Nat) : Option V1 :=
  match getR m.hp b with
  | some (.cells l _) => partF P t l o
  | _ => none
theorem cellsF_eq (P : Program) (t : TypeId) (b o : Nat) : cellsF P st.m t b o = loadX P st t b o := by
  unfold cellsF loadX
  rw [getR_eq]
  cases st.m.hp.get b with
  | none => rfl
  | some k => cases k <;> first | exact partF_eq _ _ _ _ | rfl
def vsOf : Option V1 → Option V
  | some y => some (.s y)
  | none => none
theorem vsOf_eq (x : Option V1) : vsOf x = x.map .s := by cases x <;> rfl
noncomputable def loadF (P : Program) (t : TypeId) (a : Operand) : Option V :=
  match evcF st a with
  | some (.ptr b o) => vsOf (cellsF P st.m t b o)
  | _ => none
noncomputable def binF (o : Oper) (op : BinOp) (t : TypeId) (x y : Operand) : Option V :=
  match ev1F st x with
  | some a => match ev1F st y with
    | some b => match binX E.P op t a b with
      | some v => some (.s (.one (.v v)))
      | none => orcX E st o
    | none => orcX E st o
  | none => orcX E st o
noncomputable def convF (o : Oper) (s d : TypeId) (x : Operand) : Option V :=
  match ev1F st x with
  | some a => match convX E.P s d a with
    | some v => some (.s v)
    | none => orcX E st o
  | none => orcX E st o
noncomputable def faF (P : Program) (t : TypeId) (x : Operand) (f : Nat) : Option V :=
  match P.underlying t, evcF st x with
  | some (.struct fs), some (.ptr b o) => match fs[f]? with
    | some g => match sizeX P g.type with
      | some s => bif Nat.beq s 0 then none else some (.s (.one (.ptr b (o + g.offset))))
      | none => none
    | none => none
  | _, _ => none
noncomputable def atF (P : Program) (e : TypeId) (n b o : Nat) (i : Int) : Option V :=
  if 0 ≤ i ∧ i < n then (match sizeX P e with | some s => some (.s (.one (.ptr b (o + i.toNat * s)))) | none => none) else none
noncomputable def iaF (P : Program) (t : TypeId) (x i : Operand) : Option V :=
  match P.underlying t, evcF st x, evcF st i with
  | some (.array n e), some (.ptr b o), some (.v (.int _ i)) => atF P e n b o i
  | some (.slice e), some (.sl b o n _), some (.v (.int _ i)) => atF P e n b o i
  | some (.slice e), some (.slf b o n _), some (.v (.int _ i)) => atF P e n b o i
  | _, _, _ => none
def nthV : List V1 → Nat → Option V
  | l, i => (l[i]?).map .s
noncomputable def exF (t : Operand) (i : Nat) : Option V :=
  match evF st t with
  | some (.tup l) => nthV l i
  | _ => none
noncomputable def pureF (o : Oper) : Option V :=
  match o.op with
  | .move x => evF st x
  | .assign x => evF st x
  | .pick c a b => pickF st c a b
  | .load t a => loadF st E.P t a
  | .binOp op t x y _ => binF E st o op t x y
  | .convert s d x => convF E st o s d x
  | .fieldAddr t x f => faF st E.P t x f
  | .indexAddr t x i => iaF st E.P t x i
  | .extract t i => exF st t i
  | _ => pureO E st o
theorem opt_id {α : Type} (a : Option α) : (match a with | some v => some v | none => none) = a := by cases a <;> rfl
theorem pureF_eq (o : Oper) : pureF E st o = pureO E st o := by
  obtain ⟨dst, op, type, pos, after, guard⟩ := o
  unfold pureF
  cases op with
  | move x =>
    simp only [pureO, pureX, orcX, evF_eq]
    cases st.eval x <;> rfl
  | assign x =>
    simp only [pureO, pureX, orcX, evF_eq]
    cases st.eval x <;> rfl
  | pick c a b =>
    simp only [pureO, pureX, orcX, pickF, evF_eq, evcF_eq]
    cases st.evc c with
    | none => rfl
    | some c =>
      cases c with
      | v x => cases x with
        | bool t => cases t <;> simp only [cond_true, cond_false] <;> (split <;> simp_all)
        | _ => rfl
      | _ => rfl
  | load t a =>
    simp only [pureO, pureX, orcX, loadF, evcF_eq]
    cases st.evc a with
    | none => rfl
    | some c =>
      cases c with
      | ptr b o =>
        simp only [cellsF_eq, vsOf_eq]
        cases loadX E.P st t b o <;> rfl
      | _ => rfl
  | binOp op t x y ty =>
    simp only [pureO, pureX, binF, ev1F_eq]
    cases hx : st.ev1 x with
    | none => simp only
    | some a =>
      cases hy : st.ev1 y with
      | none => simp only
      | some b =>
        simp only
        cases binX E.P op t a b <;> rfl
  | convert s d x =>
    simp only [pureO, pureX, convF, ev1F_eq]
    cases hx : st.ev1 x with
    | none => simp only
    | some a =>
      simp only
      cases convX E.P s d a <;> rfl
  | fieldAddr t x f =>
    have h : pureX E.P st ⟨dst, .fieldAddr t x f, type, pos, after, guard⟩ = faF st E.P t x f := by
      simp only [pureX, faF, evcF_eq]
      try rfl
    unfold pureO
    rw [h]
    show faF st E.P t x f = _
    cases faF st E.P t x f <;> rfl
  | indexAddr t x i =>
    have h : pureX E.P st ⟨dst, .indexAddr t x i, type, pos, after, guard⟩ = iaF st E.P t x i := by
      simp only [pureX, iaF, atF, evcF_eq]
      try rfl
    unfold pureO
    rw [h]
    show iaF st E.P t x i = _
    cases iaF st E.P t x i <;> rfl
  | extract t i =>
    have h : pureX E.P st ⟨dst, .extract t i, type, pos, after, guard⟩ = exF st t i := by
      simp only [pureX, exF, nthV, evF_eq]
      try rfl
    unfold pureO
    rw [h]
    show exF st t i = _
    cases exF st t i <;> rfl
  | _ => rfl
end
end Go.Ry
namespace Go.Ry
open Go Go.RowKit

/-! ### Writing -/
section
variable {β : Type}
/-- A number, worked out. -/
noncomputable def nowN (n : Nat) (k : Nat → β) : β := Nat.rec (motive := fun _ => β) (k 0) (fun m _ => k (Nat.succ m)) n
theorem nowN_eq (n : Nat) (k : Nat → β) : nowN n k = k n := by cases n <;> rfl
noncomputable def pushK (m : Mem) (b : Blk) (k : Mem → β) : β := Mem.rec (motive := fun _ => β) (fun hp hn wr => insK b hp hn fun hp => nowN (Nat.succ hn) fun hn => k ⟨hp, hn, wr⟩) m
theorem pushK_eq (m : Mem) (b : Blk) (k : Mem → β) : pushK m b k = k (m.push b) := by
  obtain ⟨hp, hn, wr⟩ := m
  show insK b hp hn (fun hp => nowN (Nat.succ hn) fun hn => k ⟨hp, hn, wr⟩) = _
  rw [insK_eq, nowN_eq]; rfl
noncomputable def updK (m : Mem) (i : Nat) (b : Blk) (k : Mem → β) : β :=
  Mem.rec (motive := fun _ => β) (fun hp hn wr => setK b hp i fun hp => Bool.rec (k ⟨hp, hn, wr⟩) (k ⟨hp, hn, i⟩) (Nat.ble i wr)) m
theorem updK_eq (m : Mem) (i : Nat) (b : Blk) (k : Mem → β) : updK m i b k = k (m.upd i b) := by
  obtain ⟨hp, hn, wr⟩ := m
  show setK b hp i (fun hp => (Bool.rec (k ⟨hp, hn, wr⟩) (k ⟨hp, hn, i⟩) (Nat.ble i wr) : β)) = _
  rw [setK_eq]
  show sel (Nat.ble i wr) (k ⟨hp.set i b, hn, i⟩) (k ⟨hp.set i b, hn, wr⟩) = _
  unfold Mem.upd
  cases Nat.ble i wr <;> rfl
noncomputable def putK (st : St) (m : Mem) (d : Option Tmp) (v : V) (k : St → β) : β :=
  St.rec (motive := fun _ => β) (fun tm _ ds => Option.rec (motive := fun _ => β) (k ⟨tm, m, ds⟩) (fun t => setK v tm t fun tm => k ⟨tm, m, ds⟩) d) st
theorem putK_eq (st : St) (m : Mem) (d : Option Tmp) (v : V) (k : St → β) : putK st m d v k = k (St.put ⟨st.tm, m, st.ds⟩ d v) := by
  obtain ⟨tm, m0, ds⟩ := st
  cases d with
  | none => rfl
  | some t =>
    show setK v tm t (fun tm => k ⟨tm, m, ds⟩) = _
    rw [setK_eq]; rfl
end

section
variable (E : Env) (run : Runs) (st : St)
noncomputable def storeF (P : Program) (t : TypeId) (a x : Operand) : Option (V × Mem) :=
  match evcF st a, ev1F st x, sizeX P t with
  | some (.ptr b o), some y, some s => bif Nat.beq y.cells.length s && oneCells y.cells then
      (match getR st.m.hp b with
      | some (.cells l e) => putAtK y.cells l o fun l' => updK st.m b (.cells l' e) fun m => some (.tup [], m)
      | _ => none) else none
  | _, _, _ => none
noncomputable def boxF (t : TypeId) (x : Operand) : Option (V × Mem) :=
  match ev1F st x with
  | some y => pushK st.m (.cells y.cells t) fun m => some (.s (.one (.ptr st.m.hn 0)), m)
  | none => none
noncomputable def allocF (P : Program) (t : TypeId) : Option (V × Mem) :=
  match zeroX P t with
  | some z => pushK st.m (.cells z t) fun m => some (.s (.one (.ptr st.m.hn 0)), m)
  | none => none
noncomputable def argsK {β : Type} (xs : List Operand) : (List V1 → Option β) → Option β :=
  List.rec (motive := fun _ => (List V1 → Option β) → Option β) (fun k => k []) (fun x _ ih k => match ev1F st x with | some y => ih fun l => k (y :: l) | none => none) xs
theorem argsK_eq {β : Type} (xs : List Operand) : ∀ (k : List V1 → Option β), argsK st xs k = match argsX st xs with | some l => k l | none => none := by
  induction xs with
  | nil => intro k; rfl
  | cons x xs ih =>
    intro k
    show (match ev1F st x with | some y => argsK st xs fun l => k (y :: l) | none => none) = _
    rw [ev1F_eq]
    simp only [argsX]
    cases st.ev1 x with
    | none => rfl
    | some y =>
      simp only
      rw [ih]
      cases argsX st xs <;> rfl
noncomputable def callF (f : Operand) (args : Array Operand) : Option (V × Mem) :=
  match evcF st f with
  | some (.fn f fs caps) => argsK st args.toList fun l =>
    (fun all => match E.ext f all with
    | some v => some (v, st.m)
    | none => match E.sum f all with
      | some v => some (v, st.m)
      | none => run true f all st.m) (fstPtrs fs ++ (l ++ capPtrs caps))
  | some (.yl b) => argsK st args.toList fun l => run false b l st.m
  | some (.v (.func (.methodOf t nm) fs cs)) => argsK st args.toList fun l => match l with
    | y :: l => bif fs.isEmpty && cs.isEmpty then (match methX E.P t y nm with
      | some (g, z) => match E.ext g (z :: l) with
        | some v => some (v, st.m)
        | none => match E.sum g (z :: l) with
          | some v => some (v, st.m)
          | none => run true g (z :: l) st.m
      | none => none) else none
    | [] => none
  | some (.v (.func (.func g) fs cs)) => argsK st args.toList fun l => bif cs.isEmpty && fs.all okConst then
      (match E.ext g (fs.toList.map ofValue ++ l) with
      | some v => some (v, st.m)
      | none => match E.sum g (fs.toList.map ofValue ++ l) with
        | some v => some (v, st.m)
        | none => run true g (fs.toList.map ofValue ++ l) st.m) else none
  | _ => none
theorem callF_eq (f : Operand) (args : Array Operand) : callF E run st f args = callX E run st f args := by
  unfold callF callX
  rw [evcF_eq]
  cases st.evc f with
  | none => rfl
  | some c =>
    cases c with
    | fn f fs caps =>
      simp only
      rw [argsK_eq]
      cases argsX st args.toList <;> rfl
    | yl b =>
      simp only
      rw [argsK_eq]
      cases argsX st args.toList <;> rfl
    | v x =>
      cases x with
      | func fn fs cs =>
        cases fn with
        | methodOf t nm =>
          simp only
          rw [argsK_eq]
          cases argsX st args.toList with
          | none => rfl
          | some l => cases l <;> rfl
        | func g =>
          simp only
          rw [argsK_eq]
          cases argsX st args.toList <;> rfl
        | _ => rfl
      | _ => rfl
    | _ => rfl
noncomputable def elemsF (m : Mem) (s : Nat) (c : C) : Option (List C) :=
  match c with
  | .sl b o n _ => match getR m.hp b with
    | some (.cells l _) => takeAtK l o (n * s) some
    | _ => none
  | .slf b o n _ => match getR m.hp b with
    | some (.cells l _) => takeAtK l o (n * s) some
    | _ => none
  | .v (.slice none 0 0) => some []
  | .emp => some []
  | _ => none
theorem elemsF_eq (m : Mem) (s : Nat) (c : C) : elemsF m s c = elemsX m s c := by
  unfold elemsF elemsX
  have e : ∀ (l : List C) (o n : Nat), takeAtK l o n some = takeAt l o n := fun l o n => by
    rw [takeAtK_eq]; cases takeAt l o n <;> rfl
  cases c with
  | sl b o n k => simp only [getR_eq, e]; rfl
  | slf b o n k => simp only [getR_eq, e]; rfl
  | v x =>
    cases x with
    | slice a n k => cases a <;> cases n <;> cases k <;> rfl
    | _ => rfl
  | _ => rfl
noncomputable def appF (m : Mem) (e : TypeId) (s : Nat) (d : C) (n : Nat) (new : List C) : Option (V × Mem) :=
  bif Nat.beq n 0 then appX m e s d n new else
  match d with
  | .v (.slice none 0 0) => pushK m (.cells new e) fun m' => some (.s (.one (.slf m.hn 0 n s)), m')
  | .sl b o k c => match elemsF m s d with
    | some old => bif Nat.ble (k + n) c then
        (match getR m.hp b with
        | some (.cells l e') => putAtK new l (o + k * s) fun l' => updK m b (.cells l' e') fun m' => some (.s (.one (.sl b o (k + n) c)), m')
        | _ => none)
      else pushK m (.cells (old ++ new) e) fun m' => some (.s (.one (.slf m.hn 0 (k + n) s)), m')
    | none => none
  | .slf b 0 k s' => match elemsF m s d with
    | some old => match getR m.hp b with
      | some (.cells _ e') => bif Nat.beq s s' && Nat.beq e' e then updK m b .gone (fun m1 => pushK m1 (.cells (old ++ new) e) fun m' => some (.s (.one (.slf m.hn 0 (k + n) s)), m')) else none
      | _ => none
    | none => none
  | _ => none
theorem appF_eq (m : Mem) (e : TypeId) (s : Nat) (d : C) (n : Nat) (new : List C) : appF m e s d n new = appX m e s d n new := by
  unfold appF
  cases hn : Nat.beq n 0 with
  | true => rfl
  | false =>
    simp only [cond_false]
    unfold appX
    rw [hn]
    simp only [cond_false, pushK_eq, elemsF_eq]
    cases d with
    | sl b o k c =>
      simp only
      cases elemsX m s (.sl b o k c) with
      | none => rfl
      | some old =>
        simp only
        cases Nat.ble (k + n) c with
        | false => rfl
        | true =>
          simp only [cond_true, getR_eq]
          cases m.hp.get b with
          | none => rfl
          | some bl =>
            cases bl with
            | cells l e' =>
              simp only
              rw [putAtK_eq]
              cases putAt l (o + k * s) new with
              | none => rfl
              | some l' => simp only [updK_eq, Option.map_some]
            | _ => rfl
    | slf b o k s' =>
      cases o with
      | succ o => rfl
      | zero =>
        simp only
        cases elemsX m s (.slf b 0 k s') with
        | none => rfl
        | some old =>
          simp only [getR_eq, typeAt]
          cases m.hp.get b with
          | none => simp
          | some bl =>
            cases bl with
            | cells l e' =>
              simp only
              cases Nat.beq s s' && Nat.beq e' e with
              | false => rfl
              | true => simp only [cond_true, updK_eq]
            | _ => simp
    | v x =>
      cases x with
      | slice a n k => cases a <;> cases n <;> cases k <;> rfl
      | _ => rfl
    | _ => rfl
noncomputable def appendF (P : Program) (args : Array Operand) (argTypes : Array TypeId) : Option (V × Mem) :=
  match args.toList, argTypes.toList with
    | [d, x], [t, t'] => match evcF st d, evcF st x, P.underlying t with
      | some d, some x, some (.slice e) => match sizeX P e, bytesX P e, countX x, countX d with
        | some s, some by', some n, some k => match elemsF st.m s x, zeroX P e with
          | some new, some z => bif Nat.beq t t' && Nat.ble (k + n) 1000000 && Nat.ble by' 1000000 && Nat.blt 0 s && Nat.beq z.length s then appF st.m e s d n new else none
          | _, _ => none
        | _, _, _, _ => none
      | _, _, _ => none
    | _, _ => none
noncomputable def opF (o : Oper) : Option (V × Mem) :=
  match o.op with
  | .store t a x => storeF st E.P t a x
  | .box t x => boxF st t x
  | .alloc t => allocF st E.P t
  | .call { callee := .value f, args, .. } => callF E run st f args
  | .call { callee := .builtin .append, args, argTypes } => appendF st E.P args argTypes
  | _ => match pureF E st o with
    | some v => some (v, st.m)
    | none => opX E run st o
theorem opF_eq (o : Oper) : opF E run st o = opX E run st o := by
  unfold opF
  split
  · rename_i t a x hop
    unfold opX pureO pureX orcX actX memX storeF
    simp only [hop, evcF_eq, ev1F_eq]
    cases st.evc a with
    | none => rfl
    | some c =>
      cases c with
      | ptr b o =>
        cases st.ev1 x with
        | none => rfl
        | some y =>
          cases sizeX E.P t with
          | none => rfl
          | some s =>
            simp only
            cases Nat.beq y.cells.length s && oneCells y.cells with
            | false => rfl
            | true =>
              simp only [cond_true]
              rw [getR_eq]
              cases st.m.hp.get b with
              | none => rfl
              | some k =>
                cases k with
                | cells l e =>
                  simp only
                  rw [putAtK_eq]
                  cases putAt l o y.cells with
                  | none => rfl
                  | some l' => simp only [updK_eq]; rfl
                | _ => rfl
      | _ => rfl
  · rename_i t x hop
    unfold opX pureO pureX orcX actX memX boxF
    simp only [hop, ev1F_eq]
    cases st.ev1 x with
    | none => rfl
    | some y => simp only [pushK_eq]
  · rename_i t hop
    unfold opX pureO pureX orcX actX memX allocF
    simp only [hop]
    cases zeroX E.P t with
    | none => rfl
    | some z => simp only [pushK_eq]
  · rename_i f args ts hop
    unfold opX pureO pureX orcX actX
    simp only [hop]
    exact callF_eq E run st f args
  · rename_i args ts hop
    unfold opX pureO pureX orcX actX memX appendF
    simp only [hop, evcF_eq, elemsF_eq, appF_eq]
    first | rfl | (split <;> first | rfl | (split <;> first | rfl | (split <;> first | rfl | (split <;> rfl))))
  · rw [pureF_eq]
    unfold opX
    cases pureO E st o <;> rfl
end

/-! ### Regions -/
section
variable (E : Env) (run : Runs)
noncomputable def wantF (ops : Array Oper) (st : St) (o : Oper) : Bool :=
  match o.guard with
  | none => true
  | some _ => wantedX ops st o
theorem wantF_eq (ops : Array Oper) (st : St) (o : Oper) : wantF ops st o = wantedX ops st o := by
  unfold wantF
  cases h : o.guard with
  | none => simp [wantedX, h]
  | some g => rfl
noncomputable def opsF (ops : Array Oper) (l : List Oper) : St → Option St :=
  List.rec (motive := fun _ => St → Option St) (fun st => some st)
    (fun o _ ih st => Bool.rec (putK st st.m o.dst (.tup []) ih) (match opF E run st o with | some (v, m) => putK st m o.dst v ih | none => none) (wantF ops st o)) l
theorem opsF_eq (ops : Array Oper) (l : List Oper) : ∀ st, opsF E run ops l st = opsX E run ops l st := by
  induction l with
  | nil => intro st; rfl
  | cons o l ih =>
    intro st
    show sel (wantF ops st o) (match opF E run st o with | some (v, m) => putK st m o.dst v (opsF E run ops l) | none => none) (putK st st.m o.dst (.tup []) (opsF E run ops l)) = _
    rw [wantF_eq, opF_eq]
    simp only [opsX]
    cases wantedX ops st o with
    | true =>
      show (match opX E run st o with | some (v, m) => putK st m o.dst v (opsF E run ops l) | none => none) = _
      simp only [cond_true]
      cases opX E run st o with
      | none => rfl
      | some r => obtain ⟨v, m⟩ := r; simp only [putK_eq]; exact ih _
    | false =>
      show putK st st.m o.dst (.tup []) (opsF E run ops l) = _
      simp only [cond_false, putK_eq]
      exact ih _
noncomputable def looksF (st : St) (o : Oper) : Option (Option Nat) :=
  match o.op with
  | .load _ a => match evcF st a with
    | some (.ptr b _) => some (some b)
    | _ => some none
  | .lookup .. => looksAt st o
  | _ => none
theorem looksF_eq (st : St) (o : Oper) : looksF st o = looksAt st o := by
  obtain ⟨dst, op, type, pos, after, guard⟩ := o
  unfold looksF
  cases op with
  | load t a =>
    unfold looksAt
    simp only [evcF_eq]
    cases st.evc a with
    | none => rfl
    | some c => cases c <;> rfl
  | _ => rfl
noncomputable def floatF (ops : Array Oper) (hn0 : Nat) (st : St) (i : Nat) (o : Oper) : Option (V × Option Nat) :=
  Bool.rec (some (.tup [], none))
    (Bool.rec
      (match E.orc i with
      | some (b, l, t) => match madeN E.P st o b with
        | some (l', t', v) => Bool.rec none (some (v, none)) (eqL eqD l' l && Nat.beq t' t)
        | none => none
      | none => match looksF st o with
      | none => match pureF E st o with
        | some v => some (v, none)
        | none => none
      | some (some b) => Bool.rec none (match pureF E st o with
        | some v => some (v, some b)
        | none => none) (Nat.blt b hn0)
      | some none => none)
      (some (allocV o (hn0 + rank ops i), none)) (isAlloc o)) (wantF ops st o)
theorem floatF_eq (ops : Array Oper) (hn0 : Nat) (st : St) (i : Nat) (o : Oper) : floatF E ops hn0 st i o = floatX E ops hn0 st i o := by
  unfold floatF floatX
  rw [wantF_eq, looksF_eq, pureF_eq]
  cases wantedX ops st o with
  | false => rfl
  | true =>
    cases isAlloc o with
    | true => rfl
    | false =>
      simp only [cond_true, cond_false]
      cases E.orc i with
      | some q =>
        obtain ⟨b, l, t⟩ := q
        simp only
        cases madeN E.P st o b with
        | none => rfl
        | some x =>
          obtain ⟨l', t', v⟩ := x
          simp only
          cases eqL eqD l' l && Nat.beq t' t <;> rfl
      | none =>
        simp only
        cases looksAt st o with
        | none => cases pureO E st o <;> rfl
        | some b =>
          cases b with
          | none => rfl
          | some b =>
            simp only
            cases Nat.blt b hn0 with
            | false => rfl
            | true => cases pureO E st o <;> rfl
noncomputable def heavyF (hn0 : Nat) (bs : List (Nat × Nat)) (st : St) (o : Oper) : Option (V × Mem) :=
  match opF E run ⟨st.tm, ⟨st.m.hp, st.m.hn, st.m.hn⟩, st.ds⟩ o with
  | some (v, m) => bif spares hn0 bs st o m then nowN st.m.wr (fun w => Mem.rec (motive := fun _ => Option (V × Mem)) (fun hp hn wr => Bool.rec (motive := fun _ => Option (V × Mem)) (some (v, ⟨hp, hn, wr⟩)) (some (v, ⟨hp, hn, w⟩)) (Nat.ble w wr)) m) else none
  | none => none
theorem heavyF_eq (hn0 : Nat) (bs : List (Nat × Nat)) (st : St) (o : Oper) : heavyF E run hn0 bs st o = heavyX E run hn0 bs st o := by
  unfold heavyF heavyX
  rw [opF_eq]
  cases opX E run ⟨st.tm, ⟨st.m.hp, st.m.hn, st.m.hn⟩, st.ds⟩ o with
  | none => rfl
  | some r =>
    obtain ⟨v, ⟨hp, hn, wr⟩⟩ := r
    dsimp only
    cases spares hn0 bs st o ⟨hp, hn, wr⟩ with
    | false => rfl
    | true =>
      simp only [cond_true]
      rw [nowN_eq]
      cases Nat.ble st.m.wr wr <;> rfl
noncomputable def drawF (ops : Array Oper) (hn0 : Nat) (p : Plan) : List (Nat × Nat) → St → Option St :=
  Plan.rec (motive := fun _ => List (Nat × Nat) → St → Option St) (fun _ st => some st) (fun _ _ => none)
    (fun i o f h _ ih bs st => match floatF E ops hn0 st i o with
      | some (v, b) => Bool.rec (Bool.rec none (putK st st.m o.dst v fun st => ih bs st) h) (putK st st.m o.dst v fun st => ih (withLook i b bs) st) f
      | none => Bool.rec none (match heavyF E run hn0 bs st o with
        | some (v, m) => putK st m o.dst v fun st => ih bs st
        | none => none) h) p
theorem drawF_eq (ops : Array Oper) (hn0 : Nat) (p : Plan) : ∀ bs st, drawF E run ops hn0 p bs st = drawP E run ops hn0 p bs st := by
  induction p with
  | done => intro bs st; rfl
  | fail => intro bs st; rfl
  | step i o f h p ih =>
    intro bs st
    show (match floatF E ops hn0 st i o with
      | some (v, b) => (Bool.rec (Bool.rec none (putK st st.m o.dst v fun st => drawF E run ops hn0 p bs st) h) (putK st st.m o.dst v fun st => drawF E run ops hn0 p (withLook i b bs) st) f : Option St)
      | none => (Bool.rec none (match heavyF E run hn0 bs st o with
        | some (v, m) => putK st m o.dst v fun st => drawF E run ops hn0 p bs st
        | none => none) h : Option St)) = _
    rw [floatF_eq, heavyF_eq]
    simp only [drawP]
    cases floatX E ops hn0 st i o with
    | some r =>
      obtain ⟨v, b⟩ := r
      simp only [putK_eq, ih]
      cases f with
      | true => rfl
      | false => cases h <;> rfl
    | none =>
      cases h with
      | false => rfl
      | true =>
        simp only [cond_true]
        cases heavyX E run hn0 bs st o with
        | none => rfl
        | some r => obtain ⟨v, m⟩ := r; simp only [putK_eq, ih]
end

/-! ### Code -/
section
variable (E : Env)
abbrev Reader := Code → St → Option (Ex × St)
noncomputable def seqF (rec : Reader) (a b : Code) (st : St) : Option (Ex × St) :=
  match rec a st with
  | some (.normal, st') => rec b st'
  | r => r
noncomputable def condF (rec : Reader) (x : Operand) (a b : Code) (st : St) : Option (Ex × St) :=
  match evcF st x with
  | some (.v (.bool t)) => Bool.rec (rec b st) (rec a st) t
  | _ => none
noncomputable def blockF (rec : Reader) (id : Nat) (b : Code) (st : St) : Option (Ex × St) :=
  match rec b st with
  | some (.exit i, st') => bif Nat.beq i id then some (.normal, st') else some (.exit i, st')
  | r => r
noncomputable def loopF (rec : Reader) (b : Code) (st : St) : Option (Ex × St) :=
  match rec b st with
  | some (.normal, st') => rec (.loop b) st'
  | r => r
def normF : Option St → Option (Ex × St)
  | some st => some (.normal, st)
  | none => none
noncomputable def regionF (run : Runs) (ops : Array Oper) (st : St) : Option (Ex × St) := normF (opsF E run ops ops.toList st)
noncomputable def drawOF (run : Runs) (ops : Array Oper) (st : St) (m : Mem) : Option St :=
  match E.ask ops m.hn ⟨st.tm, m, st.ds⟩ with
  | [] => none
  | p :: L => drawF (E.at (orcOf m.hn (p :: L))) run ops st.m.hn (planX ops) [] ⟨st.tm, asideL (p :: L) m, st.ds⟩
theorem drawOF_eq (run : Runs) (ops : Array Oper) (st : St) (m : Mem) : drawOF E run ops st m = drawO E run ops st m := by
  unfold drawOF drawO
  cases E.ask ops m.hn ⟨st.tm, m, st.ds⟩ with
  | nil => rfl
  | cons p L => exact drawF_eq _ _ _ _ _ _ _
noncomputable def drawnF (run : Runs) (ops : Array Oper) (st : St) : Option St :=
  match aside E.P ops.toList st.m with
  | some m => match drawF E run ops st.m.hn (planX ops) [] ⟨st.tm, m, st.ds⟩ with
    | some st' => some st'
    | none => match drawOF E run ops st m with
      | some st' => some st'
      | none => drawX E run ops st.m.hn ops.size (Array.replicate ops.size false) [] ⟨st.tm, m, st.ds⟩
  | none => none
theorem drawnF_eq (run : Runs) (ops : Array Oper) (st : St) : drawnF E run ops st = drawnX E run ops st := by
  unfold drawnF drawnX
  cases aside E.P ops.toList st.m with
  | none => rfl
  | some m =>
    simp only [drawF_eq, drawOF_eq]
    cases drawP E run ops st.m.hn (planX ops) [] ⟨st.tm, m, st.ds⟩ with
    | some _ => rfl
    | none =>
      simp only
      cases drawO E run ops st m <;> rfl
noncomputable def regionD (run : Runs) (ops : Array Oper) (st : St) : Option (Ex × St) := normF (drawnF E run ops st)
noncomputable def rangeF (run : Runs) (g : Operand) (ps : Array Tmp) (assign body : Code) (st : St) : Option (Ex × St) :=
  match evcF st g with
  | some (.fn f fs caps) =>
    pushK st.m .dfr fun m1 => pushK m1 (.loop .ready none st.tm ps.toList assign body) fun m2 => (fun l =>
    match run true f (fstPtrs fs ++ (.one (.yl l) :: capPtrs caps)) m2 with
    | some (_, m) => match getR m.hp l with
      | some (.loop s pend tm' ps' as' bo') => match s with
        | .busy => none
        | _ => updK m l (.loop .exhausted pend tm' ps' as' bo') fun m => some (pendX pend, ⟨st.tm, m, st.m.hn :: st.ds⟩)
      | _ => none
    | none => none) m1.hn
  | _ => none
theorem rangeF_eq (run : Runs) (g : Operand) (ps : Array Tmp) (assign body : Code) (st : St) : rangeF run g ps assign body st = (match st.evc g with
      | some (.fn f fs caps) =>
        let m1 := st.m.push .dfr
        let l := m1.hn
        match run true f (fstPtrs fs ++ (.one (.yl l) :: capPtrs caps)) (m1.push (.loop .ready none st.tm ps.toList assign body)) with
        | some (_, m) => match m.hp.get l with
          | some (.loop s pend tm' ps' as' bo') => match s with
            | .busy => none
            | _ => some (pendX pend, ⟨st.tm, m.upd l (.loop .exhausted pend tm' ps' as' bo'), st.m.hn :: st.ds⟩)
          | _ => none
        | none => none
      | _ => none) := by
  unfold rangeF
  rw [evcF_eq]
  cases st.evc g with
  | none => rfl
  | some c =>
    cases c with
    | fn f fs caps =>
      dsimp only
      rw [pushK_eq, pushK_eq]
      cases run true f (fstPtrs fs ++ (.one (.yl (st.m.push .dfr).hn) :: capPtrs caps)) ((st.m.push .dfr).push (.loop .ready none st.tm ps.toList assign body)) with
      | none => rfl
      | some r =>
        obtain ⟨v, m⟩ := r
        dsimp only
        rw [getR_eq]
        cases m.hp.get (st.m.push .dfr).hn with
        | none => rfl
        | some k =>
          cases k with
          | loop s pend tm' ps' as' bo' => cases s <;> simp only [updK_eq]
          | _ => rfl
    | _ => rfl
noncomputable def rangeNF (run : Runs) (b : Nat) (g : Operand) (ps : Array Tmp) (assign body : Code) (st : St) : Option (Ex × St) :=
  match evcF st g with
  | some (.fn f fs caps) => match getR st.m.hp b with
    | some (.loop _ _ _ _ _ _) =>
      pushK st.m (.loop .ready none st.tm ps.toList assign body) fun m1 => match run true f (fstPtrs fs ++ (.one (.yl st.m.hn) :: capPtrs caps)) m1 with
      | some (_, m) => match getR m.hp st.m.hn with
        | some (.loop s pend tm' ps' as' bo') => match s with
          | .busy => none
          | _ => updK m st.m.hn (.loop .exhausted pend tm' ps' as' bo') fun m => some (pendX pend, ⟨st.tm, m, st.ds⟩)
        | _ => none
      | none => none
    | _ => none
  | _ => none
theorem rangeNF_eq (run : Runs) (b : Nat) (g : Operand) (ps : Array Tmp) (assign body : Code) (st : St) : rangeNF run b g ps assign body st = rangeNX run b g ps assign body st := by
  unfold rangeNF rangeNX
  rw [evcF_eq]
  cases st.evc g with
  | none => rfl
  | some c =>
    cases c with
    | fn f fs caps =>
      simp only [getR_eq, pushK_eq, updK_eq]
      cases st.m.hp.get b with
      | none => rfl
      | some k =>
        cases k with
        | loop s p t q as bo =>
          simp only
          cases run true f (fstPtrs fs ++ (.one (.yl st.m.hn) :: capPtrs caps)) (st.m.push (.loop .ready none st.tm ps.toList assign body)) with
          | none => rfl
          | some x =>
            obtain ⟨_, m⟩ := x
            simp only
            cases m.hp.get st.m.hn with
            | none => rfl
            | some k =>
              cases k with
              | loop s _ _ _ _ _ => cases s <;> rfl
              | _ => rfl
        | _ => rfl
    | _ => rfl
noncomputable def stepF (run : Runs) (rec : Reader) (rd : Option Nat) (c : Code) (st : St) : Option (Ex × St) :=
  match c with
  | .skip => some (.normal, st)
  | .label _ => some (.normal, st)
  | .ret => some (.ret, st)
  | .exit id => some (.exit id, st)
  | .seq a b => seqF rec a b st
  | .cond x a b => condF rec x a b st
  | .block id b => blockF rec id b st
  | .loop b => loopF rec b st
  | .scope b => bif rd.isSome then none else rec b st
  | .region _ ops false => regionF E run ops st
  | .region _ ops true => regionD E run ops st
  | .rangeFunc g ps assign body => match rd with
    | some b => rangeNF run b g ps assign body st
    | none => rangeF run g ps assign body st
  | _ => none
noncomputable def argsPutK {β : Type} (l : List V1) : Nat → Tr V → (Tr V → Option β) → Option β :=
  List.rec (motive := fun _ => Nat → Tr V → (Tr V → Option β) → Option β) (fun _ t k => k t) (fun x _ ih i t k => setK (.s x) t i fun t => ih (i + 1) t k) l
theorem argsPutK_eq {β : Type} (l : List V1) : ∀ i t (k : Tr V → Option β), argsPutK l i t k = k (putArgs l i t) := by
  induction l with
  | nil => intro i t k; rfl
  | cons x l ih =>
    intro i t k
    show (setK (.s x) t i fun t => argsPutK l (i + 1) t k) = _
    rw [setK_eq, ih]
    rfl
noncomputable def enterF {β : Type} (fn : Func) (args : List V1) (k : Tr V → Option β) : Option β :=
  bif Nat.ble args.length fn.ntmps && Nat.ble fn.ntmps 1000000 then argsPutK args 0 (Tr.mk 20 fn.ntmps (.tup [])) k else none
theorem enterF_eq {β : Type} (fn : Func) (args : List V1) (k : Tr V → Option β) : enterF fn args k = match enterX fn args with | some tm => k tm | none => none := by
  unfold enterF enterX
  cases Nat.ble args.length fn.ntmps && Nat.ble fn.ntmps 1000000 with
  | false => rfl
  | true => simp only [cond_true, argsPutK_eq]
noncomputable def bodyF (P : Program) (f : FuncId) : Option (Func × Code) :=
  match P.funcs[f]? with
  | some fn => match fn.body with
    | some b => some (fn, b)
    | none => none
  | none => none
noncomputable def putZipK {β : Type} (ps : List Tmp) : List V1 → Tr V → (Tr V → β) → β :=
  List.rec (motive := fun _ => List V1 → Tr V → (Tr V → β) → β) (fun _ t k => k t) (fun p _ ih xs t k => List.rec (motive := fun _ => β) (k t) (fun x xs _ => setK (.s x) t p fun t => ih xs t k) xs) ps
theorem putZipK_eq {β : Type} (ps : List Tmp) : ∀ xs t (k : Tr V → β), putZipK ps xs t k = k (roundX.putZip ps xs t) := by
  induction ps with
  | nil => intro xs t k; cases xs <;> rfl
  | cons p ps ih =>
    intro xs t k
    cases xs with
    | nil => rfl
    | cons x xs =>
      show setK (.s x) t p (fun t => putZipK ps xs t k) = _
      rw [setK_eq, ih]
      rfl
noncomputable def roundF (code : Reader) (b : Nat) (args : List V1) (m : Mem) : Option (V × Mem) :=
  match getR m.hp b with
  | some (.loop .ready none tm ps assign body) => bif Nat.beq args.length ps.length then
      putZipK ps args tm fun t => match code assign ⟨t, m, []⟩ with
      | some (.normal, st1) => match getR st1.m.hp b with
        | some (.loop .ready none tm1 ps1 as1 bo1) => updK st1.m b (.loop .busy none tm1 ps1 as1 bo1) fun m1 => match code body ⟨st1.tm, m1, st1.ds⟩ with
          | some (ex, st2) => match getR st2.m.hp b with
            | some (.loop _ _ tm2 ps2 as2 bo2) => updK st2.m b (.loop (stateX (jumpX ex)) (jumpX ex) tm2 ps2 as2 bo2) fun m2 => some (vb (jumpX ex).isNone, m2)
            | _ => none
          | none => none
        | _ => none
      | _ => none
    else none
  | _ => none
theorem roundF_eq (code : Reader) (b : Nat) (args : List V1) (m : Mem) : roundF code b args m = roundX code b args m := by
  unfold roundF roundX
  simp only [getR_eq, putZipK_eq, updK_eq]
  rfl
noncomputable def runF (P : Program) (code : Reader) (inner : Nat → Reader) : Runs := fun isF f args m =>
  Bool.rec (roundF (inner f) f args m)
    (match bodyF P f with
    | some (fn, body) => enterF fn args fun tm => endX P fn (code body ⟨tm, m, []⟩)
    | none => none) isF
theorem runF_eq (P : Program) (code : Reader) (inner : Nat → Reader) : runF P code inner = runX P code inner := by
  funext isF f args m
  unfold runF runX
  cases isF with
  | false => exact roundF_eq (inner f) f args m
  | true =>
    show (match bodyF P f with
    | some (fn, body) => enterF fn args fun tm => endX P fn (code body ⟨tm, m, []⟩)
    | none => none) = _
    simp only [cond_true]
    unfold bodyF
    cases P.funcs[f]? with
    | none => rfl
    | some fn =>
      simp only
      cases fn.body with
      | none => rfl
      | some body =>
        simp only [enterF_eq]
        cases enterX fn args <;> rfl
noncomputable def codeF (n : Nat) : Option Nat → Reader :=
  Nat.rec (motive := fun _ => Option Nat → Reader) (fun _ _ _ => none) (fun _ ih rd c st => stepF E (runF E.P (ih none) (fun b => ih (some b))) (ih rd) rd c st) n
theorem normF_eq (x : Option St) : normF x = x.map fun st' => (Ex.normal, st') := by cases x <;> rfl
theorem codeF_eq : ∀ n rd c st, codeF E n rd c st = codeX E rd n c st
  | 0, rd, c, st => rfl
  | n + 1, rd, c, st => by
    have ih : ∀ rd, codeF E n rd = codeX E rd n := fun rd => by funext c st; exact codeF_eq n rd c st
    show stepF E (runF E.P (codeF E n none) (fun b => codeF E n (some b))) (codeF E n rd) rd c st = _
    simp only [ih]
    rw [runF_eq]
    unfold stepF
    conv => rhs; unfold codeX
    cases c with
    | cond x a b =>
      simp only [condF, evcF_eq]
      cases st.evc x with
      | none => rfl
      | some c =>
        cases c with
        | v x => cases x with
          | bool t => cases t <;> rfl
          | _ => rfl
        | _ => rfl
    | seq a b =>
      simp only [seqF]
      cases codeX E rd n a st with
      | none => rfl
      | some r => obtain ⟨e, st'⟩ := r; cases e <;> rfl
    | block id b =>
      simp only [blockF]
      cases codeX E rd n b st with
      | none => rfl
      | some r => obtain ⟨e, st'⟩ := r; cases e <;> rfl
    | loop b =>
      simp only [loopF]
      cases codeX E rd n b st with
      | none => rfl
      | some r => obtain ⟨e, st'⟩ := r; cases e <;> rfl
    | region id ops d =>
      cases d with
      | false => simp only [regionF, opsF_eq, normF_eq]
      | true =>
        simp only [regionD, drawnF_eq, normF_eq]
    | rangeFunc g ps as bo =>
      cases rd with
      | some b => exact rangeNF_eq _ b g ps as bo st
      | none => exact rangeF_eq _ g ps as bo st
    | _ => rfl
noncomputable def funF (fuel : Nat) : FuncId → List V1 → Mem → Option (V × Mem) := runF E.P (codeF E fuel none) (fun b => codeF E fuel (some b)) true
theorem funF_eq (fuel : Nat) : funF E fuel = funX E fuel := by
  unfold funF funX
  rw [runF_eq]
  have h : ∀ rd, codeF E fuel rd = codeX E rd fuel := fun rd => by funext c st; exact codeF_eq E fuel rd c st
  simp only [h]
end
/-- One row of a table, by one run. -/
theorem row_knownF {E : Env} (hE : ∀ W, EnvOk E W) (horc : ∀ i, E.orc i = none) {fuel : Nat} {r : Row} (h : (r.l.all bare1 && bareV r.v && isRun r (funF E fuel r.f r.l ⟨.e, 0, 0⟩)) = true) : Known E.P r.f r.l r.v :=
  row_known hE horc (fuel := fuel) (by rw [funF_eq] at h; exact h)
end Go.Ry
namespace Go.Ry
open Go Go.RowKit

/-! ### Numbers turned -/
def mapC (g : Nat → Nat) : C → C
  | .v x => .v x
  | .ptr b o => .ptr (g b) o
  | .sl b o n c => .sl (g b) o n c
  | .slf b o n s => .slf (g b) o n s
  | .emp => .emp
  | .fn f l k => .fn f (l.map fun p => (g p.1, p.2)) (k.map g)
  | .yl b => .yl (g b)
  | .mp b => .mp (g b)
  | .ex k e => .ex k e
  | .opq i => .opq i
def map1 (g : Nat → Nat) : V1 → V1
  | .one c => .one (mapC g c)
  | .agg l => .agg (l.map (mapC g))
def mapV (g : Nat → Nat) : V → V
  | .s x => .s (map1 g x)
  | .tup l => .tup (l.map (map1 g))

section
variable {α β γ : Type}
theorem All2.of_mapL {f : α → β} {R : β → γ → Prop} : ∀ {l : List α} {m : List γ}, All2 R (l.map f) m → All2 (fun a b => R (f a) b) l m
  | [], _, .nil => .nil
  | _ :: _, _, .cons h k => .cons h (All2.of_mapL k)
theorem All2.mapL {f : α → β} {R : β → γ → Prop} : ∀ {l : List α} {m : List γ}, All2 (fun a b => R (f a) b) l m → All2 R (l.map f) m
  | [], _, .nil => .nil
  | _ :: _, _, .cons h k => .cons h (All2.mapL k)
theorem All2.map_congr {R : α → γ → Prop} {f g : α → β} (h : ∀ a b, R a b → f a = g a) : ∀ {l : List α} {m : List γ}, All2 R l m → l.map f = l.map g
  | _, _, .nil => rfl
  | _, _, .cons x y => by simp only [List.map_cons]; rw [h _ _ x, All2.map_congr h y]
end

section
variable {g g' : Nat → Nat} {ρ σ : Loc'}
/-- Forth: what lies somewhere for ρ lies there for σ, under another number. -/
structure Via (g : Nat → Nat) (ρ σ : Loc') : Prop where
  loc : ∀ b r, ρ b = some r → σ (g b) = some r
  sz : ∀ b r, ρ b = some r → σ.sz (g b) = ρ.sz b
  val : σ.val = ρ.val
/-- Back: ρ is σ behind g. -/
structure Pul (g : Nat → Nat) (ρ σ : Loc') : Prop where
  loc : ∀ b, ρ b = σ (g b)
  sz : ∀ b, ρ.sz b = σ.sz (g b)
  val : σ.val = ρ.val
theorem DC.via (h : Via g ρ σ) : ∀ c x, DC ρ c x → DC σ (mapC g c) x := fun c x hd => by
  cases hd with
  | v k => exact .v k
  | ptr k => exact .ptr (h.loc _ _ k)
  | sl k => exact .sl (h.loc _ _ k)
  | slf k k1 k2 => exact .slf (h.loc _ _ k) k1 (by rw [h.sz _ _ k]; exact k2)
  | emp => exact .emp
  | fn k1 k => exact .fn (All2.mapL (k1.mono fun p x ⟨r, q1, q2⟩ => ⟨r, h.loc _ _ q1, q2⟩)) (All2.mapL (k.mono fun a b => h.loc a b))
  | yl k => exact .yl (h.loc _ _ k)
  | mp k => exact .mp (h.loc _ _ k)
  | ex => rw [← h.val]; exact .ex
  | opq => rw [← h.val]; exact .opq
theorem D1.via (h : Via g ρ σ) : ∀ c x, D1 ρ c x → D1 σ (map1 g c) x := fun c x hd => by
  cases hd with
  | one k => exact .one (DC.via h _ _ k)
  | agg k => exact .agg (All2.mapL (k.mono (DC.via h)))
theorem DV.via (h : Via g ρ σ) {c x} (hd : DV ρ c x) : DV σ (mapV g c) x := by
  cases hd with
  | s k => exact .s (D1.via h _ _ k)
  | tup k => exact .tup (All2.mapL (k.mono (D1.via h)))
  | any k => exact .any k
theorem DC.pul (h : Pul g ρ σ) : ∀ c x, DC σ (mapC g c) x → DC ρ c x := fun c x hd => by
  cases c with
  | v y => cases hd with | v k => exact .v k
  | ptr b o => cases hd with | ptr k => exact .ptr ((h.loc _).trans k)
  | sl b o n c => cases hd with | sl k => exact .sl ((h.loc _).trans k)
  | slf b o n s => cases hd with | slf k k1 k2 => exact .slf ((h.loc _).trans k) k1 (by rw [h.sz]; exact k2)
  | emp => cases hd with | emp => exact .emp
  | fn f l k => cases hd with
    | fn k1 k2 => exact .fn ((All2.of_mapL k1).mono fun p x ⟨r, q1, q2⟩ => ⟨r, (h.loc _).trans q1, q2⟩) ((All2.of_mapL k2).mono fun a b q => (h.loc a).trans q)
  | yl b => cases hd with | yl k => exact .yl ((h.loc _).trans k)
  | mp b => cases hd with | mp k => exact .mp ((h.loc _).trans k)
  | ex k e =>
    have : DC σ (.ex k e) x := hd
    cases this with
    | ex => rw [h.val]; exact .ex
  | opq i =>
    have : DC σ (.opq i) x := hd
    cases this with
    | opq => rw [h.val]; exact .opq
theorem D1.pul (h : Pul g ρ σ) : ∀ c x, D1 σ (map1 g c) x → D1 ρ c x := fun c x hd => by
  cases c with
  | one c => cases hd with | one k => exact .one (DC.pul h _ _ k)
  | agg l => cases hd with | agg k => exact .agg ((All2.of_mapL k).mono (DC.pul h))
theorem DV.pul (h : Pul g ρ σ) {c x} (hd : DV σ (mapV g c) x) : DV ρ c x := by
  cases c with
  | s y => cases hd with | s k => exact .s (D1.pul h _ _ k)
  | tup l =>
    cases l with
    | nil => cases hd with
      | tup k => cases k; exact .tup .nil
      | any k => exact .any k
    | cons y l => cases hd with | tup k => exact .tup ((All2.of_mapL (l := y :: l) k).mono (D1.pul h))
theorem DC.same (h : ∀ b r, ρ b = some r → g b = g' b) : ∀ c x, DC ρ c x → mapC g c = mapC g' c := fun c x hd => by
  cases hd with
  | ptr k => simp only [mapC, h _ _ k]
  | sl k => simp only [mapC, h _ _ k]
  | slf k _ _ => simp only [mapC, h _ _ k]
  | fn k1 k =>
    simp only [mapC]
    rw [All2.map_congr (fun p x (q : FstR ρ p x) => by obtain ⟨r, q1, _⟩ := q; rw [h _ _ q1]) k1, All2.map_congr (fun a b q => h a b q) k]
  | yl k => simp only [mapC, h _ _ k]
  | mp k => simp only [mapC, h _ _ k]
  | _ => rfl
end

/-! ### Alike, with addresses -/
def eqD1 : V1 → V1 → Bool
  | .one c, .one d => eqD c d
  | .agg l, .agg m => eqL eqD l m
  | _, _ => false
theorem eqD1_eq (c d : V1) (h : eqD1 c d = true) : c = d := by
  cases c <;> cases d <;> try (cases h; done)
  · rw [eqD_eq _ _ h]
  · rw [eqL_eq eqD_eq h]
def eqDV : V → V → Bool
  | .s x, .s y => eqD1 x y
  | .tup l, .tup m => eqL eqD1 l m
  | _, _ => false
theorem eqDV_eq (c d : V) (h : eqDV c d = true) : c = d := by
  cases c <;> cases d <;> try (cases h; done)
  · rw [eqD1_eq _ _ h]
  · rw [eqL_eq eqD1_eq h]

/-! ### A memory that is listed -/
def memL : List (List C × TypeId) → Mem := fun l => l.foldl (fun m p => m.push (.cells p.1 p.2)) ⟨.e, 0, 0⟩
structure MemIs (m : Mem) (l : List (List C × TypeId)) : Prop where
  hn : m.hn = l.length
  get : ∀ i p, l[i]? = some p → m.hp.get i = some (.cells p.1 p.2)
theorem MemIs.full {m : Mem} {l : List (List C × TypeId)} (h : MemIs m l) : ∀ i, i < m.hn → (m.hp.get i).isSome := fun i hi => by
  have hl : i < l.length := by rw [← h.hn]; exact hi
  rw [h.get i l[i] (List.getElem?_eq_getElem hl)]; rfl
theorem MemIs.push {m : Mem} {l : List (List C × TypeId)} (h : MemIs m l) (p : List C × TypeId) : MemIs (m.push (.cells p.1 p.2)) (l ++ [p]) := by
  refine ⟨by simp [Mem.push, h.hn], fun i q hi => ?_⟩
  show (m.hp.ins m.hn _).get i = _
  by_cases hin : i = m.hn
  · subst hin
    rw [get_ins_eq _ h.full]
    rw [h.hn] at hi
    simp at hi; rw [hi]
  · rw [get_ins_ne _ (Ne.symm hin)]
    have hil : i < l.length := by
      have := (List.getElem?_eq_some_iff.1 hi).1
      simp at this
      have := h.hn
      omega
    rw [List.getElem?_append_left hil] at hi
    exact h.get i q hi
theorem foldl_is : ∀ (r : List (List C × TypeId)) {m : Mem} {l : List (List C × TypeId)}, MemIs m l → MemIs (r.foldl (fun m p => m.push (.cells p.1 p.2)) m) (l ++ r)
  | [], m, l, h => by simpa using h
  | p :: r, m, l, h => by
    have := foldl_is r (h.push p)
    simpa using this
theorem memL_is (l : List (List C × TypeId)) : MemIs (memL l) l := by
  have := foldl_is l (m := ⟨.e, 0, 0⟩) (l := []) ⟨rfl, fun i p h => by cases h⟩
  rw [List.nil_append] at this
  exact this

/-- The blocks of a list stand in a memory, under these numbers. -/
def chkB (g : Nat → Nat) (m : Mem) : List (List C × TypeId) → List Nat → Bool
  | [], [] => true
  | p :: r, b :: bs => (match m.hp.get b with | some (.cells l e) => eqL eqD (p.1.map (mapC g)) l && Nat.beq p.2 e | _ => false) && chkB g m r bs
  | _, _ => false
theorem chkB_spec {g : Nat → Nat} {m : Mem} : ∀ {bl : List (List C × TypeId)} {bs : List Nat}, chkB g m bl bs = true →
    bl.length = bs.length ∧ ∀ (i : Nat) (p : List C × TypeId), bl[i]? = some p → ∃ q, bs[i]? = some q ∧ m.hp.get q = some (.cells (p.1.map (mapC g)) p.2)
  | [], [], _ => ⟨rfl, fun i p h => by cases h⟩
  | [], _ :: _, h => by cases h
  | _ :: _, [], h => by cases h
  | p :: r, b :: bs, h => by
    simp only [chkB, Bool.and_eq_true] at h
    obtain ⟨h1, h2⟩ := chkB_spec h.2
    refine ⟨by simp [h1], fun i q hi => ?_⟩
    cases i with
    | zero =>
      simp only [List.getElem?_cons_zero, Option.some.injEq] at hi
      subst hi
      have h3 := h.1
      split at h3
      · rename_i l e hg
        simp only [Bool.and_eq_true] at h3
        exact ⟨b, rfl, by rw [hg, eqL_eq eqD_eq h3.1, beq_t h3.2]⟩
      · cases h3
    | succ i => exact h2 i q hi
def nodupB : List Nat → Bool
  | [] => true
  | a :: l => l.all (fun b => !(Nat.beq a b)) && nodupB l
theorem nodupB_spec : ∀ {l : List Nat}, nodupB l = true → ∀ (i j a : Nat), l[i]? = some a → l[j]? = some a → i = j
  | [], _, i, j, a, h, _ => by cases h
  | b :: l, h, i, j, a, hi, hj => by
    simp only [nodupB, Bool.and_eq_true, List.all_eq_true] at h
    have hne : ∀ k, l[k]? = some b → False := fun k hk => by
      have := h.1 b (List.mem_of_getElem? hk)
      have hbb : Nat.beq b b = true := Nat.beq_refl b
      rw [hbb] at this
      cases this
    cases i with
    | zero =>
      simp only [List.getElem?_cons_zero, Option.some.injEq] at hi
      subst hi
      cases j with
      | zero => rfl
      | succ j => exact (hne j hj).elim
    | succ i =>
      cases j with
      | zero =>
        simp only [List.getElem?_cons_zero, Option.some.injEq] at hj
        subst hj
        exact (hne i hi).elim
      | succ j => rw [nodupB_spec h.2 i j a hi hj]
/-- The i-th number of a list; or one that is not in use. -/
def numB (bs : List Nat) (hn : Nat) (i : Nat) : Nat := (bs[i]?).getD hn

/-- A part of a memory, under other numbers. -/
theorem MemRel.pull {W W' : Base} {ρ σ : Loc'} {m : Mem} {w : World} (h : MemRel W σ m w) {bl : List (List C × TypeId)} {bs : List Nat} (hP : Pul (numB bs m.hn) ρ σ)
    (hb : chkB (numB bs m.hn) m bl bs = true) (hnd : nodupB bs = true) (hbelow : BelowB W' w) (hhas : ∀ i r, ρ i = some r → W'.has r) : MemRel W' ρ (memL bl) w := by
  obtain ⟨hlen, hB⟩ := chkB_spec hb
  have hI := memL_is bl
  have key : ∀ i r, ρ i = some r → ∃ p q, bl[i]? = some p ∧ bs[i]? = some q ∧ σ q = some r ∧ m.hp.get q = some (.cells (p.1.map (mapC (numB bs m.hn))) p.2) := fun i r hi => by
    rw [hP.loc] at hi
    have hlt : i < bs.length := by
      rcases Nat.lt_or_ge i bs.length with h' | h'
      · exact h'
      · have e : numB bs m.hn i = m.hn := by unfold numB; rw [List.getElem?_eq_none h']; rfl
        rw [e, h.hn_none] at hi; cases hi
    have hl2 : i < bl.length := by omega
    have e1 := List.getElem?_eq_getElem hl2
    obtain ⟨q, h1, h2⟩ := hB i _ e1
    have e : numB bs m.hn i = q := by unfold numB; rw [h1]; rfl
    rw [e] at hi
    exact ⟨_, q, e1, h1, hi, h2⟩
  refine ⟨hbelow, fun i r hi => ?_, fun i j r hi hj _ _ => ?_, fun i r o hi ho => ?_, hI.full⟩
  · obtain ⟨p, q, h1, h2, h3, h4⟩ := key i r hi
    obtain ⟨_, _, k, o, k1, k2, k3⟩ := h.dom q r h3
    rw [h4] at k1; cases k1
    refine ⟨by rw [hI.hn]; exact (List.getElem?_eq_some_iff.1 h1).1, hhas i r hi, .cells p.1 p.2, o, hI.get i p h1, k2, ?_⟩
    cases k3 with
    | cells k => exact .cells ((All2.of_mapL k).mono (DC.pul hP))
  · obtain ⟨p, q, h1, h2, h3, h4⟩ := key i r hi
    obtain ⟨p', q', h1', h2', h3', h4'⟩ := key j r hj
    have := h.inj q q' r h3 h3' (by rw [h4]; exact fun e => by cases e) (by rw [h4']; exact fun e => by cases e)
    subst this
    exact nodupB_spec hnd i j q h2 h2'
  · obtain ⟨p, q, h1, h2, h3, h4⟩ := key i r hi
    rw [hP.sz, h.size _ r o (by rw [← hP.loc]; exact hi) ho]

/-! ### Numbers found -/
def numC : C → Option Nat
  | .ptr b _ => some b
  | .sl b _ _ _ => some b
  | .slf b _ _ _ => some b
  | .mp b => some b
  | .fn _ _ (b :: _) => some b
  | .fn _ ((b, _) :: _) [] => some b
  | _ => none
def findB (l : List V1) (m : Mem) (bs : List Nat) (p : Nat × Nat × Nat) : Option Nat :=
  bif Nat.beq p.1 0 then (match l[p.2.1]? with
    | some y => (y.cells[p.2.2]?).bind numC
    | none => none)
  else match bs[p.2.1]? with
    | some b => match m.hp.get b with
      | some (.cells l _) => (l[p.2.2]?).bind numC
      | _ => none
    | none => none
def findBs (l : List V1) (m : Mem) : List (Nat × Nat × Nat) → List Nat → Option (List Nat)
  | [], bs => some bs
  | p :: r, bs => match findB l m bs p with
    | some b => findBs l m r (bs ++ [b])
    | none => none
/-! ### A call in a memory of its own -/
structure DRow where
  f : FuncId
  l : List V1
  bl : List (List C × TypeId)
  v : V
  nw : List (List C × TypeId)
  /-- Where the new blocks' numbers stand behind the run: in a result's cell (0), in a block's (1). -/
  kl : List (Nat × Nat × Nat)
  /-- Where the numbers of the first blocks stand: in an argument's cell (0), in a block's (1). -/
  pl : List (Nat × Nat × Nat)
/-- The call hands back v and the new blocks; the other ones are as they were. -/
def Deep (P : Program) (val : Lets) (d : DRow) : Prop :=
  ∀ (W : Base) (ρ : Loc') (xs : List Value) (w : World), ρ.val = val → All2 (D1 ρ) d.l xs → MemRel W ρ (memL d.bl) w → (callFunc d.f xs.toArray).run P w = .ok (.enter d.f xs.toArray) w ∧
    Calls P d.f xs.toArray w fun e w' => ∃ x ρ', e = .returned x ∧ Ext ρ ρ' ∧ (∀ b, b < d.bl.length → ρ b = none → ρ' b = none) ∧ DV ρ' d.v x ∧ MemRel W ρ' (memL (d.bl ++ d.nw)) w'

def listV : V → List V1
  | .s x => [x]
  | .tup l => l
def chkD (d : DRow) (o : Option (V × Mem)) : Bool :=
  match o with
  | some (v, m) => match findBs (listV v) m d.kl (List.range d.bl.length) with
    | some ks => eqDV (mapV (numB ks m.hn) d.v) v && chkB (numB ks m.hn) m (d.bl ++ d.nw) ks && nodupB ks && eqL Nat.beq (ks.take d.bl.length) (List.range d.bl.length)
    | none => false
  | none => false
theorem deep_of {P : Program} {val : Lets} {d : DRow} {v : V} {m : Mem} (h : ∀ (W : Base) (ρ : Loc') (xs : List Value) (w : World), ρ.val = val → All2 (D1 ρ) d.l xs → MemRel W ρ (memL d.bl) w → (callFunc d.f xs.toArray).run P w = .ok (.enter d.f xs.toArray) w ∧
    Calls P d.f xs.toArray w fun e w' => ∃ x ρ', e = .returned x ∧ Ext ρ ρ' ∧ Keep (memL d.bl).hn (memL d.bl) m ρ ρ' ∧ DV ρ' v x ∧ MemRel W ρ' m w') (hc : chkD d (some (v, m)) = true) : Deep P val d := by
  unfold chkD at hc
  dsimp only at hc
  obtain ⟨ks, hks, hc⟩ : ∃ ks, findBs (listV v) m d.kl (List.range d.bl.length) = some ks ∧ (eqDV (mapV (numB ks m.hn) d.v) v && chkB (numB ks m.hn) m (d.bl ++ d.nw) ks && nodupB ks && eqL Nat.beq (ks.take d.bl.length) (List.range d.bl.length)) = true := by
    split at hc
    · rename_i ks hks; exact ⟨ks, hks, hc⟩
    · cases hc
  simp only [Bool.and_eq_true] at hc
  obtain ⟨⟨⟨c1, c2⟩, c3⟩, c4⟩ := hc
  intro W ρ xs w hV hx hm
  obtain ⟨h1, h2⟩ := h W ρ xs w hV hx hm
  refine ⟨h1, h2.mono fun e w' he => ?_⟩
  obtain ⟨x, ρ', rfl, e1, e2, e3, e4⟩ := he
  have hn : (memL d.bl).hn = d.bl.length := (memL_is d.bl).hn
  have hid : ∀ b, b < d.bl.length → numB ks m.hn b = b := fun b hb => by
    have e := eqL_eq (fun x y h => beq_t h) c4
    have : (ks.take d.bl.length)[b]? = some b := by rw [e]; simp [hb]
    rw [List.getElem?_take_of_lt hb] at this
    unfold numB; rw [this]; rfl
  have hP : Pul (numB ks m.hn) ⟨fun b => ρ' (numB ks m.hn b), fun b => ρ'.sz (numB ks m.hn b), ρ'.val, ρ'.it⟩ ρ' := ⟨fun _ => rfl, fun _ => rfl, rfl⟩
  have hlt : ∀ b r, ρ b = some r → b < d.bl.length := fun b r hb => by rw [← hn]; exact (hm.dom b r hb).1
  refine ⟨x, ⟨fun b => ρ' (numB ks m.hn b), fun b => ρ'.sz (numB ks m.hn b), ρ'.val, ρ'.it⟩, rfl, ⟨fun b r hb => ?_, fun b r hb => ?_, e1.val, e1.it⟩, fun b hb hb' => ?_, DV.pul hP (by rw [eqDV_eq _ _ c1]; exact e3), e4.pull hP c2 c3 e4.below fun i r hi => (e4.dom _ r hi).2.1⟩
  · show ρ' (numB ks m.hn b) = some r
    rw [hid b (hlt b r hb)]; exact e1.loc b r hb
  · show ρ'.sz (numB ks m.hn b) = ρ.sz b
    rw [hid b (hlt b r hb)]; exact e1.sz b r hb
  · show ρ' (numB ks m.hn b) = none
    rw [hid b hb]; exact (e2 b (by rw [hn]; exact hb) hb').1

/-! ### Put to use -/
/-- The number that it has in the greater memory. -/
def embB (bs : List Nat) (k hn i : Nat) : Nat := bif Nat.blt i k then numB bs hn i else hn + (i - k)
def pushL (g : Nat → Nat) (l : List (List C × TypeId)) (m : Mem) : Mem := l.foldl (fun m p => m.push (.cells (p.1.map (mapC g)) p.2)) m
def fitsD (d : DRow) (l : List V1) (m : Mem) (bs : List Nat) : Bool :=
  eqL eqD1 (d.l.map (map1 (numB bs m.hn))) l && chkB (numB bs m.hn) m d.bl bs && nodupB bs
def deepX (d : DRow) (l : List V1) (m : Mem) : Option (V × Mem) :=
  match findBs l m d.pl [] with
  | some bs => bif fitsD d l m bs then some (mapV (embB bs d.bl.length m.hn) d.v, pushL (embB bs d.bl.length m.hn) d.nw m) else none
  | none => none
theorem pushL_frm {g : Nat → Nat} : ∀ {l : List (List C × TypeId)} {m : Mem}, Frm m (pushL g l m)
  | [], m => .refl _
  | p :: r, m => (Frm.push m _).trans (pushL_frm (l := r))
theorem pushL_spec {g : Nat → Nat} : ∀ {l : List (List C × TypeId)} {m : Mem}, (∀ i, i < m.hn → (m.hp.get i).isSome) →
    (pushL g l m).hn = m.hn + l.length ∧ (∀ i, i < m.hn → (pushL g l m).hp.get i = m.hp.get i) ∧ ∀ i p, l[i]? = some p → (pushL g l m).hp.get (m.hn + i) = some (.cells (p.1.map (mapC g)) p.2)
  | [], m, _ => ⟨rfl, fun _ _ => rfl, fun i p h => by cases h⟩
  | p :: r, m, hf => by
    have hf' : ∀ i, i < (m.push (.cells (p.1.map (mapC g)) p.2)).hn → ((m.push (.cells (p.1.map (mapC g)) p.2)).hp.get i).isSome := fun i hi => by
      show ((m.hp.ins m.hn _).get i).isSome
      by_cases hin : i = m.hn
      · subst hin; rw [get_ins_eq _ hf]; rfl
      · rw [get_ins_ne _ (Ne.symm hin)]
        have : i < m.hn + 1 := hi
        exact hf i (by omega)
    obtain ⟨h1, h2, h3⟩ := pushL_spec (g := g) (l := r) hf'
    have e : (m.push (.cells (p.1.map (mapC g)) p.2)).hn = m.hn + 1 := rfl
    refine ⟨?_, fun i hi => ?_, fun i q hi => ?_⟩
    · show (pushL g r (m.push _)).hn = _
      rw [h1, e]; simp only [List.length_cons]; omega
    · show (pushL g r (m.push _)).hp.get i = _
      rw [h2 i (by rw [e]; omega)]
      exact get_ins_ne _ (by omega)
    · show (pushL g r (m.push _)).hp.get _ = _
      cases i with
      | zero =>
        simp only [List.getElem?_cons_zero, Option.some.injEq] at hi
        subst hi
        rw [Nat.add_zero, h2 m.hn (by rw [e]; omega)]
        exact get_ins_eq _ hf
      | succ i =>
        have := h3 i q hi
        rw [e] at this
        rw [show m.hn + (i + 1) = m.hn + 1 + i by omega]; exact this
theorem deep_use {P : Program} {val : Lets} {d : DRow} (hd : Deep P val d) {l : List V1} {m : Mem} {v : V} {m' : Mem} (h : deepX d l m = some (v, m')) :
    Frm m m' ∧ ∀ (W : Base) (ρ : Loc') (xs : List Value) (w : World), ρ.val = val → All2 (D1 ρ) l xs → MemRel W ρ m w →
      (callFunc d.f xs.toArray).run P w = .ok (.enter d.f xs.toArray) w ∧
      Calls P d.f xs.toArray w fun e w' => ∃ x ρ', e = .returned x ∧ Ext ρ ρ' ∧ Keep m.hn m m' ρ ρ' ∧ DV ρ' v x ∧ MemRel W ρ' m' w' := by
  unfold deepX at h
  split at h
  · rename_i bs hbs
    cases hf : fitsD d l m bs with
    | false => rw [hf] at h; cases h
    | true =>
      rw [hf] at h
      simp only [cond_true, Option.some.injEq, Prod.mk.injEq] at h
      obtain ⟨rfl, rfl⟩ := h
      refine ⟨pushL_frm, fun W ρ xs w hV hx hm => ?_⟩
      simp only [fitsD, Bool.and_eq_true] at hf
      obtain ⟨⟨f1, f2⟩, f3⟩ := hf
      have hl := eqL_eq eqD1_eq f1
      obtain ⟨hlen, hB⟩ := chkB_spec f2
      -- the part of it
      obtain ⟨σ, hσ⟩ : ∃ σ : Loc', σ = ⟨fun b => ρ (numB bs m.hn b), fun b => ρ.sz (numB bs m.hn b), ρ.val, ρ.it⟩ := ⟨_, rfl⟩
      have hP : Pul (numB bs m.hn) σ ρ := by rw [hσ]; exact ⟨fun _ => rfl, fun _ => rfl, rfl⟩
      have hM1 : MemRel ⟨w, fun r => ∃ i, σ i = some r⟩ σ (memL d.bl) w := hm.pull hP f2 f3 (BelowB.refl _ _) fun i r hi => .inr ⟨i, hi⟩
      have hx1 : All2 (D1 σ) d.l xs := by
        rw [← hl] at hx
        exact (All2.of_mapL hx).mono (D1.pul hP)
      obtain ⟨h1, h2⟩ := hd ⟨w, fun r => ∃ i, σ i = some r⟩ σ xs w (by rw [hσ]; exact hV) hx1 hM1
      refine ⟨h1, h2.mono fun e w' he => ?_⟩
      obtain ⟨x, τ, rfl, e1, e2, e3, e4⟩ := he
      have hI := memL_is (d.bl ++ d.nw)
      have hI0 := memL_is d.bl
      obtain ⟨p1, p2, p3⟩ := pushL_spec (g := embB bs d.bl.length m.hn) (l := d.nw) hm.full
      generalize hm' : pushL (embB bs d.bl.length m.hn) d.nw m = m' at p1 p2 p3
      have hlt : ∀ b r, ρ b = some r → b < m.hn := fun b r hb => (hm.dom b r hb).1
      have hin : ∀ b r, ρ b = some r → r < w.heap.size := fun b r hb => by
        obtain ⟨_, _, k, o, _, k2, _⟩ := hm.dom b r hb
        exact (Array.getElem?_eq_some_iff.1 k2).1
      have hσlt : ∀ i r, σ i = some r → i < d.bl.length := fun i r hi => by rw [← hI0.hn]; exact (hM1.dom i r hi).1
      have hback : ∀ i r, i < d.bl.length → τ i = some r → σ i = some r := fun i r hi ht => by
        cases hs : σ i with
        | none => rw [e2 i hi hs] at ht; cases ht
        | some q => rw [e1.loc i q hs] at ht; exact ht
      have hnum : ∀ i r, σ i = some r → ∃ p q, d.bl[i]? = some p ∧ bs[i]? = some q ∧ numB bs m.hn i = q ∧ ρ q = some r ∧ m.hp.get q = some (.cells (p.1.map (mapC (numB bs m.hn))) p.2) := fun i r hi => by
        have hl2 := hσlt i r hi
        have e1' := List.getElem?_eq_getElem hl2
        obtain ⟨q, k1, k2⟩ := hB i _ e1'
        have e : numB bs m.hn i = q := by unfold numB; rw [k1]; rfl
        exact ⟨_, q, e1', k1, e, by rw [← e, ← hP.loc]; exact hi, k2⟩
      obtain ⟨ρ', hρ'⟩ : ∃ ρ' : Loc', ρ' = ⟨fun b => if b < m.hn then ρ b else τ (b - m.hn + d.bl.length), fun b => if b < m.hn then ρ.sz b else τ.sz (b - m.hn + d.bl.length), ρ.val, ρ.it⟩ := ⟨_, rfl⟩
      have hold : ∀ b, b < m.hn → ρ' b = ρ b := fun b hb => by rw [hρ']; exact if_pos hb
      have holds : ∀ b, b < m.hn → ρ'.sz b = ρ.sz b := fun b hb => by rw [hρ']; exact if_pos hb
      have hnew : ∀ b, ¬ b < m.hn → ρ' b = τ (b - m.hn + d.bl.length) := fun b hb => by rw [hρ']; exact if_neg hb
      have hnews : ∀ b, ¬ b < m.hn → ρ'.sz b = τ.sz (b - m.hn + d.bl.length) := fun b hb => by rw [hρ']; exact if_neg hb
      have hval : ρ'.val = ρ.val := by rw [hρ']
      have hE : Ext ρ ρ' := ⟨fun b r hb => by rw [hold b (hlt b r hb)]; exact hb, fun b r hb => holds b (hlt b r hb), hval, by rw [hρ']⟩
      have hσval : σ.val = ρ.val := by rw [hσ]
      have hsmall : ∀ i, i < d.bl.length → embB bs d.bl.length m.hn i = numB bs m.hn i := fun i hi => by
        unfold embB
        rw [show Nat.blt i d.bl.length = true from Nat.ble_eq_true_of_le hi]; rfl
      have hbig : ∀ i, ¬ i < d.bl.length → embB bs d.bl.length m.hn i = m.hn + (i - d.bl.length) := fun i hi => by
        unfold embB
        cases hb : Nat.blt i d.bl.length with
        | true => exact absurd (Nat.le_of_ble_eq_true hb) hi
        | false => rfl
      have hVia : Via (embB bs d.bl.length m.hn) τ ρ' := by
        refine ⟨fun i r hi => ?_, fun i r hi => ?_, ?_⟩
        · by_cases hk : i < d.bl.length
          · obtain ⟨p, q, _, _, k3, k4, _⟩ := hnum i r (hback i r hk hi)
            rw [hsmall i hk, k3, hold q (hlt q r k4)]; exact k4
          · rw [hbig i hk, hnew _ (by omega), show m.hn + (i - d.bl.length) - m.hn + d.bl.length = i by omega]; exact hi
        · by_cases hk : i < d.bl.length
          · have hs := hback i r hk hi
            obtain ⟨p, q, _, _, k3, k4, _⟩ := hnum i r hs
            rw [hsmall i hk, k3, holds q (hlt q r k4), e1.sz i r hs, hP.sz, k3]
          · rw [hbig i hk, hnews _ (by omega), show m.hn + (i - d.bl.length) - m.hn + d.bl.length = i by omega]
        · rw [hval, ← hσval, ← e1.val]
      have hdom : ∀ i r, τ i = some r → ∃ p o, (d.bl ++ d.nw)[i]? = some p ∧ w'.heap[r]? = some o ∧ DB ρ' (.cells (p.1.map (mapC (embB bs d.bl.length m.hn))) p.2) o ∧ (w.heap.size ≤ r ∨ ∃ j, σ j = some r) := fun i r hi => by
        obtain ⟨k1, k2, k, o, k3, k4, k5⟩ := e4.dom i r hi
        rw [hI.hn] at k1
        have e' := List.getElem?_eq_getElem k1
        have k3' := hI.get i _ e'
        rw [k3'] at k3; cases k3
        refine ⟨_, o, e', k4, ?_, k2⟩
        cases k5 with
        | cells k => exact .cells (All2.mapL (k.mono (DC.via hVia)))
      have hcon : ∀ i p r, d.bl[i]? = some p → σ i = some r → p.1.map (mapC (embB bs d.bl.length m.hn)) = p.1.map (mapC (numB bs m.hn)) := fun i p r hp hi => by
        obtain ⟨_, _, k, o, k3, _, k5⟩ := hM1.dom i r hi
        rw [hI0.get i p hp] at k3; cases k3
        cases k5 with
        | cells k => exact All2.map_congr (DC.same fun b r hb => hsmall b (hσlt b r hb)) k
      have hother : ∀ r, r < w.heap.size → (¬ ∃ i, σ i = some r) → w'.heap[r]? = w.heap[r]? := fun r hr hno => e4.below.block r fun hc => hc.elim (fun h => by have : w.heap.size ≤ r := h; omega) hno
      have hown : ∀ i b r, σ i = some r → ρ b = some r → m.hp.get b = some .gone ∨ numB bs m.hn i = b := fun i b r hi hb => by
        obtain ⟨p, q, _, _, k3, k4, k5⟩ := hnum i r hi
        by_cases hg : m.hp.get b = some .gone
        · exact .inl hg
        · exact .inr (k3.trans (hm.inj q b r k4 hb (by rw [k5]; exact fun e => by cases e) hg))
      refine ⟨x, ρ', rfl, hE, fun b hb hn => ⟨by rw [hold b hb]; exact hn, p2 b hb⟩, DV.via hVia e3, ?_⟩
      have hnw : ∀ b r, ¬ b < m.hn → ρ' b = some r → ∃ p o, d.nw[b - m.hn]? = some p ∧ τ (b - m.hn + d.bl.length) = some r ∧ w'.heap[r]? = some o ∧ DB ρ' (.cells (p.1.map (mapC (embB bs d.bl.length m.hn))) p.2) o ∧ (w.heap.size ≤ r ∨ ∃ j, σ j = some r) := fun b r hb hr => by
        rw [hnew b hb] at hr
        obtain ⟨p, o, k1, k2, k3, k4⟩ := hdom _ r hr
        refine ⟨p, o, ?_, hr, k2, k3, k4⟩
        rw [List.getElem?_append_right (by omega)] at k1
        rwa [show b - m.hn + d.bl.length - d.bl.length = b - m.hn by omega] at k1
      have hτinj : ∀ i j r, τ i = some r → τ j = some r → i = j := fun i j r hi hj => by
        obtain ⟨p, _, k1, _⟩ := hdom i r hi
        obtain ⟨p', _, k1', _⟩ := hdom j r hj
        exact e4.inj i j r hi hj (by rw [hI.get i p k1]; exact fun e => by cases e) (by rw [hI.get j p' k1']; exact fun e => by cases e)
      refine ⟨⟨e4.below.os.trans hm.below.os, e4.below.tape.trans hm.below.tape, e4.below.output.trans hm.below.output, Nat.le_trans hm.below.size e4.below.size, fun k hk => ?_⟩, fun b r hb => ?_, fun b b' r hb hb' g1 g2 => ?_, fun b r o hb ho => ?_, fun b hb => ?_⟩
      · have hk1 := Base.has_lt hk
        have hk2 := hm.below.size
        rw [hother k (by omega) fun ⟨i, hi⟩ => hk ?_]
        · exact hm.below.block k hk
        · obtain ⟨p, q, _, _, _, k4, _⟩ := hnum i k hi
          exact (hm.dom q k k4).2.1
      · by_cases hbn : b < m.hn
        · have hb0 := hb
          rw [hold b hbn] at hb0
          obtain ⟨_, hWr, k, o, k1, k2, k3⟩ := hm.dom b r hb0
          refine ⟨by omega, hWr, ?_⟩
          by_cases hex : ∃ i, σ i = some r
          · obtain ⟨i, hi⟩ := hex
            obtain ⟨p, o', q1, q2, q3, _⟩ := hdom i r (e1.loc i r hi)
            rcases hown i b r hi hb0 with hg | hg
            · exact ⟨.gone, o', by rw [p2 b hbn]; exact hg, q2, .gone⟩
            · obtain ⟨p', q, s1, s2, s3, s4, s5⟩ := hnum i r hi
              rw [List.getElem?_append_left (hσlt i r hi), s1] at q1
              cases q1
              rw [hcon i _ r s1 hi] at q3
              refine ⟨_, o', ?_, q2, q3⟩
              rw [p2 b hbn, ← hg, s3]; exact s5
          · exact ⟨k, o, by rw [p2 b hbn]; exact k1, by rw [hother r (hin b r hb0) hex]; exact k2, k3.mono hE⟩
        · obtain ⟨p, o, q1, q2, q3, q4, q5⟩ := hnw b r hbn hb
          have hlen2 := (List.getElem?_eq_some_iff.1 q1).1
          have hp3 := p3 (b - m.hn) p q1
          rw [show m.hn + (b - m.hn) = b by omega] at hp3
          refine ⟨by omega, ?_, _, o, hp3, q3, q4⟩
          rcases q5 with q5 | ⟨j, hj⟩
          · exact .inl (Nat.le_trans hm.below.size q5)
          · obtain ⟨_, q, _, _, _, k4, _⟩ := hnum j r hj
            exact (hm.dom q r k4).2.1
      · have mixed : ∀ b b', b < m.hn → ¬ b' < m.hn → ρ' b = some r → ρ' b' = some r → False := fun b b' h1 h2 k1 k2 => by
          rw [hold b h1] at k1
          obtain ⟨p, o, q1, q2, q3, q4, q5⟩ := hnw b' r h2 k2
          have hr := hin b r k1
          rcases q5 with q5 | ⟨j, hj⟩
          · omega
          · have := hτinj j _ r (e1.loc j r hj) q2
            have := hσlt j r hj
            omega
        by_cases hbn : b < m.hn <;> by_cases hbn' : b' < m.hn
        · rw [hold b hbn] at hb; rw [hold b' hbn'] at hb'
          rw [p2 b hbn] at g1; rw [p2 b' hbn'] at g2
          exact hm.inj b b' r hb hb' g1 g2
        · exact (mixed b b' hbn hbn' hb hb').elim
        · exact (mixed b' b hbn' hbn hb' hb).elim
        · rw [hnew b hbn] at hb; rw [hnew b' hbn'] at hb'
          have := hτinj _ _ r hb hb'
          omega
      · by_cases hbn : b < m.hn
        · have hb0 := hb
          rw [hold b hbn] at hb0
          rw [holds b hbn]
          obtain ⟨_, _, k, o0, _, k2, _⟩ := hm.dom b r hb0
          by_cases hex : ∃ i, σ i = some r
          · obtain ⟨i, hi⟩ := hex
            obtain ⟨p, q, s1, s2, s3, s4, s5⟩ := hnum i r hi
            have a1 := e4.size i r o (e1.loc i r hi) ho
            have a2 := hm.size b r o0 hb0 k2
            have a3 := hm.size q r o0 s4 k2
            rw [a1, e1.sz i r hi, hP.sz, s3, ← a3, a2]
          · rw [hother r (hin b r hb0) hex] at ho
            exact hm.size b r o hb0 ho
        · rw [hnews b hbn]
          rw [hnew b hbn] at hb
          exact e4.size _ r o hb ho
      · rw [p1] at hb
        by_cases hbn : b < m.hn
        · rw [p2 b hbn]; exact hm.full b hbn
        · have hlt2 : b - m.hn < d.nw.length := by omega
          have := p3 (b - m.hn) _ (List.getElem?_eq_getElem hlt2)
          rw [show m.hn + (b - m.hn) = b by omega] at this
          rw [this]; rfl
  · cases h
end Go.Ry
