/-
  THE RUNNER, put to use: what a run of the runner says of a call; tables of calls that are known.
-/
import Derived.Test.YteaglhkacfcgfaaRxL
namespace Go.Rx
open Go Go.RowKit

def noLoc (val : Nat → Int) : Loc' := ⟨fun _ => none, val⟩
theorem MemRel.empty (w : World) (val : Nat → Int) : MemRel w (noLoc val) ⟨.e, 0, 0⟩ w := ⟨Below.refl _ _, fun b r h => (by cases h), fun b b' r h => (by cases h), fun i hi => absurd hi (Nat.not_lt_zero _)⟩

/-- A call of f at l hands back v, whatever the world; nothing that was there has turned. -/
def Known (P : Program) (f : FuncId) (l : List V1) (v : V) : Prop :=
  ∀ (ρ : Loc') (xs : List Value) (w : World), All2 (D1 ρ) l xs → (callFunc f xs.toArray).run P w = .ok (.enter f xs.toArray) w ∧
    Calls P f xs.toArray w fun e w' => ∃ x, e = .returned x ∧ DV ρ v x ∧ Below w.heap.size w w'

/-- Values without an address. -/
def bareC : C → Bool
  | .v _ => true
  | _ => false
def bare1 : V1 → Bool
  | .one c => bareC c
  | .agg l => l.all bareC
def bareV : V → Bool
  | .s x => bare1 x
  | .tup l => l.all bare1
section
variable {ρ ρ' : Loc'}
theorem bareC_any {c : C} {x : Value} (hb : bareC c = true) (h : DC ρ c x) : DC ρ' c x := by
  cases h with
  | v k => exact .v k
  | _ => cases hb
theorem All2.any {α β : Type} {R S : α → β → Prop} {p : α → Bool} (h : ∀ a b, p a = true → R a b → S a b) : ∀ {l : List α} {m : List β}, l.all p = true → All2 R l m → All2 S l m
  | _, _, _, .nil => .nil
  | _, _, hp, .cons x y => by
    simp only [List.all_cons, Bool.and_eq_true] at hp
    exact .cons (h _ _ hp.1 x) (All2.any h hp.2 y)
theorem bare1_any {c : V1} {x : Value} (hb : bare1 c = true) (h : D1 ρ c x) : D1 ρ' c x := by
  cases h with
  | one k => exact .one (bareC_any hb k)
  | agg k => exact .agg (k.any (fun _ _ => bareC_any) hb)
theorem bareV_any {c : V} {x : Value} (hb : bareV c = true) (h : DV ρ c x) : DV ρ' c x := by
  cases h with
  | s k => exact .s (bare1_any hb k)
  | tup k => exact .tup (k.any (fun _ _ => bare1_any) hb)
end

theorem known_of_run {E : Env} (hE : EnvOk E) {fuel : Nat} {f : FuncId} {l : List V1} {v : V} (hl : l.all bare1 = true) (hv : bareV v = true)
    (h : (funX E fuel f l ⟨.e, 0, 0⟩).map (·.1) = some v) : Known E.P f l v := by
  intro ρ xs w hx
  simp only [Option.map_eq_some_iff] at h
  obtain ⟨⟨v', m'⟩, h, rfl⟩ := h
  have hR := run_ok hE (code_ok hE fuel)
  have hx' : All2 (D1 (noLoc E.val)) l xs := hx.any (fun _ _ => bare1_any) hl
  obtain ⟨h1, h2⟩ := hR.calls f l _ _ _ h w (noLoc E.val) xs w rfl hx' (MemRel.empty w _)
  refine ⟨h1, h2.mono fun e w' he => ?_⟩
  obtain ⟨x, ρ', rfl, _, _, h5, h6⟩ := he
  exact ⟨x, rfl, bareV_any hv h5, h6.below⟩

/-! ### Alike -/
def eqE : Exp → Exp → Bool
  | .inp k i, .inp k' i' => decide (k = k') && Nat.beq i i'
  | .lit n, .lit n' => decide (n = n')
  | .bin op k a b, .bin op' k' a' b' => decide (op = op') && decide (k = k') && eqE a a' && eqE b b'
  | .wrap k a, .wrap k' a' => decide (k = k') && eqE a a'
  | .addS a b c, .addS a' b' c' => eqE a a' && eqE b b' && eqE c c'
  | .addC a b c, .addC a' b' c' => eqE a a' && eqE b b' && eqE c c'
  | .subS a b c, .subS a' b' c' => eqE a a' && eqE b b' && eqE c c'
  | .subC a b c, .subC a' b' c' => eqE a a' && eqE b b' && eqE c c'
  | _, _ => false
theorem eqE_eq : ∀ {a b : Exp}, eqE a b = true → a = b := by
  intro a
  induction a with
  | inp k i => intro b h; cases b <;> simp [eqE] at h; rw [h.1, h.2]
  | lit n => intro b h; cases b <;> simp [eqE] at h; rw [h]
  | bin op k a b iha ihb => intro c h; cases c <;> simp [eqE] at h; rw [h.1.1.1, h.1.1.2, iha h.1.2, ihb h.2]
  | wrap k a iha => intro c h; cases c <;> simp [eqE] at h; rw [h.1, iha h.2]
  | addS a b c iha ihb ihc => intro d h; cases d <;> simp [eqE] at h; rw [iha h.1.1, ihb h.1.2, ihc h.2]
  | addC a b c iha ihb ihc => intro d h; cases d <;> simp [eqE] at h; rw [iha h.1.1, ihb h.1.2, ihc h.2]
  | subS a b c iha ihb ihc => intro d h; cases d <;> simp [eqE] at h; rw [iha h.1.1, ihb h.1.2, ihc h.2]
  | subC a b c iha ihb ihc => intro d h; cases d <;> simp [eqE] at h; rw [iha h.1.1, ihb h.1.2, ihc h.2]
def eqC : C → C → Bool
  | .v (.int k n), .v (.int k' n') => decide (k = k') && decide (n = n')
  | .v (.bool b), .v (.bool b') => b == b'
  | .ex k e, .ex k' e' => decide (k = k') && eqE e e'
  | .v (.string s), .v (.string s') => decide (s.toList = s'.toList)
  | _, _ => false
def eqL {α : Type} (eq : α → α → Bool) : List α → List α → Bool
  | [], [] => true
  | x :: l, y :: m => eq x y && eqL eq l m
  | _, _ => false
def eq1 : V1 → V1 → Bool
  | .one c, .one d => eqC c d
  | .agg l, .agg m => eqL eqC l m
  | _, _ => false
theorem eqC_eq {c d : C} (h : eqC c d = true) : c = d := by
  unfold eqC at h
  split at h
  · simp only [Bool.and_eq_true, decide_eq_true_eq] at h; rw [h.1, h.2]
  · have := eq_of_beq h; rw [this]
  · simp only [Bool.and_eq_true, decide_eq_true_eq] at h; rw [h.1, eqE_eq h.2]
  · rename_i s s'
    simp only [decide_eq_true_eq] at h
    have : s = s' := by
      rw [ByteArray.toList_eq, ByteArray.toList_eq] at h
      cases s; cases s'
      simp at h; rw [h]
    rw [this]
  · cases h
theorem eqL_eq {α : Type} {eq : α → α → Bool} (he : ∀ x y, eq x y = true → x = y) : ∀ {l m : List α}, eqL eq l m = true → l = m
  | [], [], _ => rfl
  | [], _ :: _, h => by cases h
  | _ :: _, [], h => by cases h
  | x :: l, y :: m, h => by
    simp only [eqL, Bool.and_eq_true] at h
    rw [he _ _ h.1, eqL_eq he h.2]
theorem eq1_eq (c d : V1) (h : eq1 c d = true) : c = d := by
  cases c <;> cases d <;> try (cases h; done)
  · rw [eqC_eq h]
  · rw [eqL_eq (fun _ _ => eqC_eq) h]

/-- A table of calls that are known. -/
structure Row where
  f : FuncId
  l : List V1
  v : V
def sumOf : List Row → FuncId → List V1 → Option V
  | [], _, _ => none
  | r :: rs, f, l => bif Nat.beq r.f f && eqL eq1 r.l l then some r.v else sumOf rs f l
theorem sumOf_known {P : Program} : ∀ {rs : List Row}, (∀ r ∈ rs, Known P r.f r.l r.v) → ∀ {f : FuncId} {l : List V1} {v : V}, sumOf rs f l = some v → Known P f l v
  | [], _, f, l, v, h => by cases h
  | r :: rs, hr, f, l, v, h => by
    simp only [sumOf] at h
    cases hc : Nat.beq r.f f && eqL eq1 r.l l with
    | true =>
      rw [hc] at h
      simp only [cond_true, Option.some.injEq] at h
      subst h
      simp only [Bool.and_eq_true] at hc
      have h1 := beq_t hc.1
      have h2 := eqL_eq eq1_eq hc.2
      subst h1; subst h2
      exact hr r (by simp)
    | false =>
      rw [hc] at h
      exact sumOf_known (fun r hm => hr r (by simp [hm])) h

/-- The whole of a result, alike. -/
def eqV : V → V → Bool
  | .s x, .s y => eq1 x y
  | .tup l, .tup m => eqL eq1 l m
  | _, _ => false
theorem eqV_eq {c d : V} (h : eqV c d = true) : c = d := by
  cases c <;> cases d <;> try (cases h; done)
  · rw [eq1_eq _ _ h]
  · rw [eqL_eq eq1_eq h]
def isRun (r : Row) (o : Option (V × Mem)) : Bool :=
  match o with
  | some (v, _) => eqV v r.v
  | none => false
/-- One row of a table, by one run. -/
theorem row_known {E : Env} (hE : EnvOk E) {fuel : Nat} {r : Row} (h : (r.l.all bare1 && bareV r.v && isRun r (funX E fuel r.f r.l ⟨.e, 0, 0⟩)) = true) : Known E.P r.f r.l r.v := by
  simp only [Bool.and_eq_true] at h
  obtain ⟨⟨h1, h2⟩, h3⟩ := h
  refine known_of_run hE (fuel := fuel) h1 h2 ?_
  unfold isRun at h3
  split at h3
  · rename_i v m hm
    rw [hm]
    simp only [Option.map_some]
    rw [eqV_eq h3]
  · cases h3
end Go.Rx
