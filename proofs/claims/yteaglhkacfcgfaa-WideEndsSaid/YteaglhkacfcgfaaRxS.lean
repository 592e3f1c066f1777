/-
  THE RUNNER over numbers that bear letters: contracts for every value, out of runs.
-/
import Derived.Test.YteaglhkacfcgfaaRxO
namespace Go.Rx
open Go Go.RowKit

def valC (σ : Nat → Int) : C → Value
  | .v x => x
  | .ex k e => .int k (e.eval σ)
  | _ => .nilFunc
def val1 (σ : Nat → Int) : V1 → Value
  | .one c => valC σ c
  | .agg l => .agg (l.map (valC σ)).toArray
def valV (σ : Nat → Int) : V → Value
  | .s x => val1 σ x
  | .tup l => .tuple (l.map (val1 σ)).toArray
def okC : C → Bool
  | .v x => x.oneCell'
  | .ex _ _ => true
  | _ => false
def ok1 : V1 → Bool
  | .one c => okC c
  | .agg l => l.all okC
def okV : V → Bool
  | .s x => ok1 x
  | .tup l => l.all ok1
section
variable {ρ : Loc'}
theorem okC_val {c : C} (h : okC c = true) : DC ρ c (valC ρ.val c) := by
  cases c with
  | v x => exact .v h
  | ex k e => exact .ex
  | _ => cases h
theorem okC_inv {c : C} (h : okC c = true) {x : Value} (hx : DC ρ c x) : x = valC ρ.val c := by
  cases c with
  | v x => exact hx.v_inv
  | ex k e => cases hx; rfl
  | _ => cases h
theorem All2.of_ok {α β : Type} {R : α → β → Prop} {p : α → Bool} {f : α → β} (h : ∀ a, p a = true → R a (f a)) : ∀ {l : List α}, l.all p = true → All2 R l (l.map f)
  | [], _ => .nil
  | a :: l, hp => by
    simp only [List.all_cons, Bool.and_eq_true] at hp
    exact .cons (h a hp.1) (All2.of_ok h hp.2)
theorem All2.inv_ok {α β : Type} {R : α → β → Prop} {p : α → Bool} {f : α → β} (h : ∀ a b, p a = true → R a b → b = f a) : ∀ {l : List α} {m : List β}, l.all p = true → All2 R l m → m = l.map f
  | _, _, _, .nil => rfl
  | _, _, hp, .cons x y => by
    simp only [List.all_cons, Bool.and_eq_true] at hp
    rw [List.map_cons, ← h _ _ hp.1 x, ← All2.inv_ok h hp.2 y]
theorem ok1_val {c : V1} (h : ok1 c = true) : D1 ρ c (val1 ρ.val c) := by
  cases c with
  | one c => exact .one (okC_val h)
  | agg l => exact .agg (All2.of_ok (fun _ => okC_val) h)
theorem ok1_inv {c : V1} (h : ok1 c = true) {x : Value} (hx : D1 ρ c x) : x = val1 ρ.val c := by
  cases c with
  | one c => exact okC_inv h hx.one_inv
  | agg l =>
    obtain ⟨xs, rfl, hxs⟩ := hx.agg_inv
    rw [All2.inv_ok (f := valC ρ.val) (fun _ _ h hx => okC_inv h hx) h hxs]
    rfl
theorem okV_val {c : V} (h : okV c = true) : DV ρ c (valV ρ.val c) := by
  cases c with
  | s x => exact .s (ok1_val h)
  | tup l => exact .tup (All2.of_ok (fun _ => ok1_val) h)
theorem okV_inv {c : V} (h : okV c = true) {x : Value} (hx : DV ρ c x) : x = valV ρ.val c := by
  cases c with
  | s y => cases hx; exact ok1_inv h (by assumption)
  | tup l =>
    obtain ⟨xs, rfl, hxs⟩ := hx.tup_inv
    rw [All2.inv_ok (f := val1 ρ.val) (fun _ _ h hx => ok1_inv h hx) h hxs]
    rfl
end

/-- A call of f at these values hands back x, whatever the world; nothing that was there has turned. -/
def Gives (P : Program) (f : FuncId) (xs : List Value) (x : Value) : Prop :=
  ∀ w : World, (callFunc f xs.toArray).run P w = .ok (.enter f xs.toArray) w ∧ Calls P f xs.toArray w fun e w' => e = .returned x ∧ Below w.heap.size w w'

theorem gives_of_run {E : Env} (hE : EnvOk E) {fuel : Nat} {r : Row} (h : (r.l.all ok1 && okV r.v && isRun r (funX E fuel r.f r.l ⟨.e, 0, 0⟩)) = true) : Gives E.P r.f (r.l.map (val1 E.val)) (valV E.val r.v) := by
  simp only [Bool.and_eq_true] at h
  obtain ⟨⟨h1, h2⟩, h3⟩ := h
  unfold isRun at h3
  split at h3
  · rename_i v m hm
    have := eqV_eq h3
    subst this
    intro w
    have hR := run_ok hE (code_ok hE fuel)
    obtain ⟨k1, k2⟩ := hR.calls _ _ _ _ _ hm w (noLoc E.val) (r.l.map (val1 E.val)) w rfl (All2.of_ok (fun _ => ok1_val) h1) (MemRel.empty w _)
    refine ⟨k1, k2.mono fun e w' he => ?_⟩
    obtain ⟨x, ρ', rfl, hx, _, h5, h6⟩ := he
    have := okV_inv h2 h5
    rw [hx.val] at this
    exact ⟨by rw [this]; rfl, h6.below⟩
  · cases h3

/-! ### Ranges -/
theorem wrap_u64 (n : Int) : IntKind.u64.wrap n = n % 18446744073709551616 := by
  simp [IntKind.wrap, IntKind.signed, IntKind.bits]
theorem u64_eq {k : IntKind} (h : u64 k = true) : k = .u64 := by cases k <;> first | rfl | cases h
theorem word_range {σ : Nat → Int} : ∀ {e : Exp}, e.word = true → 0 ≤ e.eval σ ∧ e.eval σ < 18446744073709551616 := by
  intro e h
  cases e with
  | inp k i =>
    have := u64_eq (k := k) h; subst this
    simp only [Exp.eval, wrap_u64]; omega
  | lit n => simp only [Exp.word, Bool.and_eq_true, decide_eq_true_eq] at h; exact h
  | wrap k a =>
    have := u64_eq (k := k) h; subst this
    simp only [Exp.eval, wrap_u64]; omega
  | addS a b c => simp only [Exp.eval]; omega
  | subS a b c => simp only [Exp.eval]; omega
  | bin op k a b =>
    simp only [Exp.word, Bool.and_eq_true] at h
    have := u64_eq h.1; subst this
    have h2 := h.2
    cases op <;> simp only at h2 <;> first
      | (cases h2; done)
      | (simp only [Exp.eval, arith, isShift, cond_false, intBin, numOf, wrap_u64]; omega)
      | (simp only [Exp.eval, arith, isShift, cond_true, shiftX]
         split
         · simp only [numOf]; omega
         · simp only [numOf, wrap_u64]; omega)
  | addC a b c => cases h
  | subC a b c => cases h
theorem bit_range {σ : Nat → Int} : ∀ {e : Exp}, e.bit = true → 0 ≤ e.eval σ ∧ e.eval σ ≤ 1 := by
  intro e
  induction e with
  | lit n => intro h; simp only [Exp.bit, Bool.and_eq_true, decide_eq_true_eq] at h; exact h
  | addC a b c _ _ ih =>
    intro h
    simp only [Exp.bit, Bool.and_eq_true] at h
    have h1 := word_range (σ := σ) h.1.1
    have h2 := word_range (σ := σ) h.1.2
    have h3 := ih h.2
    simp only [Exp.eval]
    omega
  | subC a b c => intro _; simp only [Exp.eval]; split <;> omega
  | _ => intro h; cases h

/-! ### Tests that are known -/
structure Test where
  op : BinOp
  a : Exp
  b : Exp
  r : Bool
def testOf : List Test → BinOp → Exp → Exp → Option Bool
  | [], _, _, _ => none
  | t :: ts, op, a, b => bif decide (t.op = op) && eqE t.a a && eqE t.b b then some t.r else testOf ts op a b
def TestOk (σ : Nat → Int) (t : Test) : Prop := ∀ k, intBin t.op k (t.a.eval σ) (t.b.eval σ) = some (.bool t.r)
theorem testOf_ok {σ : Nat → Int} : ∀ {ts : List Test}, (∀ t ∈ ts, TestOk σ t) → ∀ {op a b r}, testOf ts op a b = some r → ∀ k, intBin op k (a.eval σ) (b.eval σ) = some (.bool r)
  | [], _, op, a, b, r, h, k => by cases h
  | t :: ts, ht, op, a, b, r, h, k => by
    simp only [testOf] at h
    cases hc : decide (t.op = op) && eqE t.a a && eqE t.b b with
    | true =>
      rw [hc] at h
      simp only [cond_true, Option.some.injEq] at h
      subst h
      simp only [Bool.and_eq_true, decide_eq_true_eq] at hc
      obtain ⟨⟨h1, h2⟩, h3⟩ := hc
      subst h1
      rw [← eqE_eq h2, ← eqE_eq h3]
      exact ht t (by simp) k
    | false =>
      rw [hc] at h
      exact testOf_ok (fun t hm => ht t (by simp [hm])) h k
/-- A test between numbers without letters. -/
def litTest (op : BinOp) (a b : Exp) : Option Bool :=
  match a, b with
  | .lit m, .lit n => match intBin op .i64 m n with
    | some (.bool r) => some r
    | _ => none
  | _, _ => none
theorem litTest_ok {op : BinOp} {a b : Exp} {r : Bool} (h : litTest op a b = some r) (σ : Nat → Int) (k : IntKind) : intBin op k (a.eval σ) (b.eval σ) = some (.bool r) := by
  unfold litTest at h
  split at h
  · rename_i m n
    simp only [Exp.eval]
    cases op <;> simp [intBin] at h ⊢ <;> first
      | exact h
      | (split at h <;> first | (cases h; done) | (simp at h; done))
      | (cases h; done)
  · cases h
def RowGives (P : Program) (σ : Nat → Int) (r : Row) : Prop := (r.l.all ok1 && okV r.v) = true ∧ Gives P r.f (r.l.map (val1 σ)) (valV σ r.v)
theorem sumOf_gives {P : Program} {σ : Nat → Int} : ∀ {rs : List Row}, (∀ r ∈ rs, RowGives P σ r) → ∀ {f : FuncId} {l : List V1} {v : V}, sumOf rs f l = some v → (l.all ok1 && okV v) = true ∧ Gives P f (l.map (val1 σ)) (valV σ v)
  | [], _, f, l, v, h => by cases h
  | r :: rs, hr, f, l, v, h => by
    simp only [sumOf] at h
    cases hc : Nat.beq r.f f && eqL eq1 r.l l with
    | true =>
      rw [hc] at h
      simp only [cond_true, Option.some.injEq] at h
      subst h
      simp only [Bool.and_eq_true] at hc
      have h1 := beq_t hc.1
      have h2 := eqL_eq eq1_eq hc.2
      subst h1; subst h2
      exact hr r (by simp)
    | false =>
      rw [hc] at h
      exact sumOf_gives (fun r hm => hr r (by simp [hm])) h
end Go.Rx

namespace Go.Proofs.Yteaglhkacfcgfaa
open Go Go.Rx Go.RowKit
def addE (a b c : Exp) : Option V := bif a.word && b.word && c.bit then some (.tup [.one (.ex .u64 (.addS a b c)), .one (.ex .u64 (.addC a b c))]) else none
def subE (a b c : Exp) : Option V := bif a.word && b.word && c.bit then some (.tup [.one (.ex .u64 (.subS a b c)), .one (.ex .u64 (.subC a b c))]) else none
def extS (f : FuncId) (l : List V1) : Option V :=
  match extX f l with
  | some v => some v
  | none => match l with
    | [.one c, .one d, .one e] => match exC c, exC d, exC e with
      | some (.u64, a), some (.u64, b), some (.u64, c) => bif Nat.beq f 104 then addE a b c else bif Nat.beq f 98 then subE a b c else none
      | _, _, _ => none
    | _ => none
theorem extS_ok (f : FuncId) (l : List V1) (v : V) (h : extS f l = some v) (ρ : Loc') (xs : List Value) (hx : All2 (D1 ρ) l xs) : ∃ x, DV ρ v x ∧ ∀ w, (callFunc f xs.toArray).run Try.prog w = .ok (.value x) w := by
  unfold extS at h
  split at h
  · rename_i u hu
    simp only [Option.some.injEq] at h; subst h
    exact ext_ok f l u hu ρ xs hx
  · split at h
    · rename_i c d e
      split at h
      · rename_i a b q h1 h2 h3
        obtain ⟨x1, xs1, rfl, k1, hx⟩ := hx.cons_inv
        obtain ⟨x2, xs2, rfl, k2, hx⟩ := hx.cons_inv
        obtain ⟨x3, xs3, rfl, k3, hx⟩ := hx.cons_inv
        cases hx
        have e1 := exC_sound h1 k1.one_inv
        have e2 := exC_sound h2 k2.one_inv
        have e3 := exC_sound h3 k3.one_inv
        subst e1; subst e2; subst e3
        cases hb : Nat.beq f 104 with
        | true =>
          rw [hb] at h
          simp only [cond_true] at h
          have := beq_t hb; subst this
          unfold addE at h
          cases hc : a.word && b.word && q.bit with
          | false => rw [hc] at h; cases h
          | true =>
            rw [hc] at h
            simp only [cond_true, Option.some.injEq] at h; subst h
            simp only [Bool.and_eq_true] at hc
            have r1 := word_range (σ := ρ.val) hc.1.1
            have r2 := word_range (σ := ρ.val) hc.1.2
            have r3 := bit_range (σ := ρ.val) hc.2
            exact ⟨_, .tup (.cons (.one .ex) (.cons (.one .ex) .nil)), fun w => run_add _ _ _ r1.1 r2.1 r3.1 r3.2 w⟩
        | false =>
          rw [hb] at h
          simp only [cond_false] at h
          cases hb' : Nat.beq f 98 with
          | true =>
            rw [hb'] at h
            simp only [cond_true] at h
            have := beq_t hb'; subst this
            unfold subE at h
            cases hc : a.word && b.word && q.bit with
            | false => rw [hc] at h; cases h
            | true =>
              rw [hc] at h
              simp only [cond_true, Option.some.injEq] at h; subst h
              simp only [Bool.and_eq_true] at hc
              have r1 := word_range (σ := ρ.val) hc.1.1
              have r2 := word_range (σ := ρ.val) hc.1.2
              have r3 := bit_range (σ := ρ.val) hc.2
              exact ⟨_, .tup (.cons (.one .ex) (.cons (.one .ex) .nil)), fun w => run_sub _ _ _ r1.1 r2.1 r2.2 r3.1 r3.2 w⟩
          | false => rw [hb'] at h; cases h
      · cases h
    · cases h

noncomputable def envS (σ : Nat → Int) (rs : List Row) (ts : List Test) : Env :=
  ⟨Try.prog, extS, sumOf rs, σ, fun op a b => match litTest op a b with | some r => some r | none => testOf ts op a b⟩
theorem envS_ok {σ : Nat → Int} {rs : List Row} {ts : List Test} (hr : ∀ r ∈ rs, RowGives Try.prog σ r) (ht : ∀ t ∈ ts, TestOk σ t) : EnvOk (envS σ rs ts) where
  mixed := env0.mixed
  name := env0.name
  ext := fun f l v h ρ xs _ hx => extS_ok f l v h ρ xs hx
  sum := fun f l v h ρ xs w hV hx => by
    obtain ⟨h1, h2⟩ := sumOf_gives hr h
    simp only [Bool.and_eq_true] at h1
    have e := All2.inv_ok (f := val1 ρ.val) (fun _ _ h hx => ok1_inv h hx) h1.1 hx
    have hV' : ρ.val = σ := hV
    subst e
    rw [hV']
    obtain ⟨k1, k2⟩ := h2 w
    refine ⟨k1, k2.mono fun e w' he => ?_⟩
    obtain ⟨rfl, hb⟩ := he
    exact ⟨_, rfl, by rw [← hV']; exact okV_val h1.2, hb⟩
  test := fun op a b r h k => by
    simp only [envS] at h ⊢
    split at h
    · rename_i q hq
      simp only [Option.some.injEq] at h; subst h
      exact litTest_ok hq σ k
    · exact testOf_ok ht h k
/-- A contract, by one run. -/
theorem run_gives (σ : Nat → Int) (rs : List Row) (ts : List Test) (hr : ∀ r ∈ rs, RowGives Try.prog σ r) (ht : ∀ t ∈ ts, TestOk σ t) (r : Row) (fuel : Nat)
    (h : ∀ σ, (r.l.all ok1 && okV r.v && isRun r (funX (envS σ rs ts) fuel r.f r.l ⟨.e, 0, 0⟩)) = true) : Gives Try.prog r.f (r.l.map (val1 σ)) (valV σ r.v) :=
  gives_of_run (envS_ok hr ht) (h σ)
end Go.Proofs.Yteaglhkacfcgfaa
