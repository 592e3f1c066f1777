/-
  THE RUNNER, put to use: what a run of the runner says of a call; tables of calls that are known.
  THE RUNNER at this program: what it takes for known of the library, and that it is so.
  Numbers as the runner's values.
  THE RUNNER over numbers that bear letters: contracts for every value, out of runs.
  Contracts of package wide, for every value: sums and differences of magnitudes.
  Contracts of package wide, for every value: differences; comparisons.
  Contracts of package wide, for every value: comparing magnitudes; zero; the sign.
  Contracts of package wide, for every value: the order of wide integers, and their signs.
  Contracts of package wide, for every value: the sign, the sign apart from the size, and back.
-/
import Derived.Test.YtfeapgpjchjphaaGreatMA
import Derived.Test.YtfeapgpjchjphaaGreatRows
import Derived.Shelf.Spec.BitsCarry
set_option linter.all false
namespace Go.Rx
open Go Go.RowKit

def noLoc (val : Lets) : Loc' := ⟨fun _ => none, val⟩
theorem MemRel.empty (w : World) (val : Lets) : MemRel w (noLoc val) ⟨.e, 0, 0⟩ w := ⟨Below.refl _ _, fun b r h => (by cases h), fun b b' r h => (by cases h), fun i hi => absurd hi (Nat.not_lt_zero _)⟩

/-- A call of f at l hands back v, whatever the world; nothing that was there has turned. -/
def Known (P : Program) (f : FuncId) (l : List V1) (v : V) : Prop :=
  ∀ (ρ : Loc') (xs : List Value) (w : World), All2 (D1 ρ) l xs → (callFunc f xs.toArray).run P w = .ok (.enter f xs.toArray) w ∧
    Calls P f xs.toArray w fun e w' => ∃ x, e = .returned x ∧ DV ρ v x ∧ Below w.heap.size w w'

/-- Values without an address. -/
def bareC : C → Bool
  | .v _ => true
  | _ => false
def bare1 : V1 → Bool
  | .one c => bareC c
  | .agg l => l.all bareC
def bareV : V → Bool
  | .s x => bare1 x
  | .tup l => l.all bare1
section
variable {ρ ρ' : Loc'}
theorem bareC_any {c : C} {x : Value} (hb : bareC c = true) (h : DC ρ c x) : DC ρ' c x := by
  cases h with
  | v k => exact .v k
  | _ => cases hb
theorem All2.any {α β : Type} {R S : α → β → Prop} {p : α → Bool} (h : ∀ a b, p a = true → R a b → S a b) : ∀ {l : List α} {m : List β}, l.all p = true → All2 R l m → All2 S l m
  | _, _, _, .nil => .nil
  | _, _, hp, .cons x y => by
    simp only [List.all_cons, Bool.and_eq_true] at hp
    exact .cons (h _ _ hp.1 x) (All2.any h hp.2 y)
theorem bare1_any {c : V1} {x : Value} (hb : bare1 c = true) (h : D1 ρ c x) : D1 ρ' c x := by
  cases h with
  | one k => exact .one (bareC_any hb k)
  | agg k => exact .agg (k.any (fun _ _ => bareC_any) hb)
theorem bareV_any {c : V} {x : Value} (hb : bareV c = true) (h : DV ρ c x) : DV ρ' c x := by
  cases h with
  | s k => exact .s (bare1_any hb k)
  | tup k => exact .tup (k.any (fun _ _ => bare1_any) hb)
end

theorem known_of_run {E : Env} (hE : ∀ W, EnvOk E W) {fuel : Nat} {f : FuncId} {l : List V1} {v : V} (hl : l.all bare1 = true) (hv : bareV v = true)
    (h : (funX E fuel f l ⟨.e, 0, 0⟩).map (·.1) = some v) : Known E.P f l v := by
  intro ρ xs w hx
  simp only [Option.map_eq_some_iff] at h
  obtain ⟨⟨v', m'⟩, h, rfl⟩ := h
  have hx' : All2 (D1 (noLoc E.val)) l xs := hx.any (fun _ _ => bare1_any) hl
  have hR := run_ok (hE w) (code_ok (hE w) fuel)
  obtain ⟨h1, h2⟩ := hR.calls f l _ _ _ h (noLoc E.val) xs w rfl hx' (MemRel.empty w _)
  refine ⟨h1, h2.mono fun e w' he => ?_⟩
  obtain ⟨x, ρ', rfl, _, _, h5, h6⟩ := he
  exact ⟨x, rfl, bareV_any hv h5, h6.below⟩

/-! ### Alike -/
def eqE : Exp → Exp → Bool
  | .inp k i, .inp k' i' => decide (k = k') && Nat.beq i i'
  | .lit n, .lit n' => decide (n = n')
  | .bin op k a b, .bin op' k' a' b' => decide (op = op') && decide (k = k') && eqE a a' && eqE b b'
  | .wrap k a, .wrap k' a' => decide (k = k') && eqE a a'
  | .addS a b c, .addS a' b' c' => eqE a a' && eqE b b' && eqE c c'
  | .addC a b c, .addC a' b' c' => eqE a a' && eqE b b' && eqE c c'
  | .subS a b c, .subS a' b' c' => eqE a a' && eqE b b' && eqE c c'
  | .subC a b c, .subC a' b' c' => eqE a a' && eqE b b' && eqE c c'
  | _, _ => false
theorem eqE_eq : ∀ {a b : Exp}, eqE a b = true → a = b := by
  intro a
  induction a with
  | inp k i => intro b h; cases b <;> simp [eqE] at h; rw [h.1, h.2]
  | lit n => intro b h; cases b <;> simp [eqE] at h; rw [h]
  | bin op k a b iha ihb => intro c h; cases c <;> simp [eqE] at h; rw [h.1.1.1, h.1.1.2, iha h.1.2, ihb h.2]
  | wrap k a iha => intro c h; cases c <;> simp [eqE] at h; rw [h.1, iha h.2]
  | addS a b c iha ihb ihc => intro d h; cases d <;> simp [eqE] at h; rw [iha h.1.1, ihb h.1.2, ihc h.2]
  | addC a b c iha ihb ihc => intro d h; cases d <;> simp [eqE] at h; rw [iha h.1.1, ihb h.1.2, ihc h.2]
  | subS a b c iha ihb ihc => intro d h; cases d <;> simp [eqE] at h; rw [iha h.1.1, ihb h.1.2, ihc h.2]
  | subC a b c iha ihb ihc => intro d h; cases d <;> simp [eqE] at h; rw [iha h.1.1, ihb h.1.2, ihc h.2]
def eqC : C → C → Bool
  | .v (.int k n), .v (.int k' n') => decide (k = k') && decide (n = n')
  | .v (.bool b), .v (.bool b') => b == b'
  | .ex k e, .ex k' e' => decide (k = k') && eqE e e'
  | .v (.string s), .v (.string s') => decide (s.toList = s'.toList)
  | .opq i, .opq j => Nat.beq i j
  | _, _ => false
def eqL {α : Type} (eq : α → α → Bool) : List α → List α → Bool
  | [], [] => true
  | x :: l, y :: m => eq x y && eqL eq l m
  | _, _ => false
def eq1 : V1 → V1 → Bool
  | .one c, .one d => eqC c d
  | .agg l, .agg m => eqL eqC l m
  | _, _ => false
theorem eqC_eq {c d : C} (h : eqC c d = true) : c = d := by
  unfold eqC at h
  split at h
  · simp only [Bool.and_eq_true, decide_eq_true_eq] at h; rw [h.1, h.2]
  · have := eq_of_beq h; rw [this]
  · simp only [Bool.and_eq_true, decide_eq_true_eq] at h; rw [h.1, eqE_eq h.2]
  · rename_i s s'
    simp only [decide_eq_true_eq] at h
    have : s = s' := by
      rw [ByteArray.toList_eq, ByteArray.toList_eq] at h
      cases s; cases s'
      simp at h; rw [h]
    rw [this]
  · rw [beq_t h]
  · cases h
theorem eqL_eq {α : Type} {eq : α → α → Bool} (he : ∀ x y, eq x y = true → x = y) : ∀ {l m : List α}, eqL eq l m = true → l = m
  | [], [], _ => rfl
  | [], _ :: _, h => by cases h
  | _ :: _, [], h => by cases h
  | x :: l, y :: m, h => by
    simp only [eqL, Bool.and_eq_true] at h
    rw [he _ _ h.1, eqL_eq he h.2]
theorem eq1_eq (c d : V1) (h : eq1 c d = true) : c = d := by
  cases c <;> cases d <;> try (cases h; done)
  · rw [eqC_eq h]
  · rw [eqL_eq (fun _ _ => eqC_eq) h]

/-- A table of calls that are known. -/
structure Row where
  f : FuncId
  l : List V1
  v : V
def sumOf : List Row → FuncId → List V1 → Option V
  | [], _, _ => none
  | r :: rs, f, l => bif Nat.beq r.f f && eqL eq1 r.l l then some r.v else sumOf rs f l
theorem sumOf_known {P : Program} : ∀ {rs : List Row}, (∀ r ∈ rs, Known P r.f r.l r.v) → ∀ {f : FuncId} {l : List V1} {v : V}, sumOf rs f l = some v → Known P f l v
  | [], _, f, l, v, h => by cases h
  | r :: rs, hr, f, l, v, h => by
    simp only [sumOf] at h
    cases hc : Nat.beq r.f f && eqL eq1 r.l l with
    | true =>
      rw [hc] at h
      simp only [cond_true, Option.some.injEq] at h
      subst h
      simp only [Bool.and_eq_true] at hc
      have h1 := beq_t hc.1
      have h2 := eqL_eq eq1_eq hc.2
      subst h1; subst h2
      exact hr r (by simp)
    | false =>
      rw [hc] at h
      exact sumOf_known (fun r hm => hr r (by simp [hm])) h

/-- The whole of a result, alike. -/
def eqV : V → V → Bool
  | .s x, .s y => eq1 x y
  | .tup l, .tup m => eqL eq1 l m
  | _, _ => false
theorem eqV_eq {c d : V} (h : eqV c d = true) : c = d := by
  cases c <;> cases d <;> try (cases h; done)
  · rw [eq1_eq _ _ h]
  · rw [eqL_eq eq1_eq h]
def isRun (r : Row) (o : Option (V × Mem)) : Bool :=
  match o with
  | some (v, _) => eqV v r.v
  | none => false
/-- One row of a table, by one run. -/
theorem row_known {E : Env} (hE : ∀ W, EnvOk E W) {fuel : Nat} {r : Row} (h : (r.l.all bare1 && bareV r.v && isRun r (funX E fuel r.f r.l ⟨.e, 0, 0⟩)) = true) : Known E.P r.f r.l r.v := by
  simp only [Bool.and_eq_true] at h
  obtain ⟨⟨h1, h2⟩, h3⟩ := h
  refine known_of_run hE (fuel := fuel) h1 h2 ?_
  unfold isRun at h3
  split at h3
  · rename_i v m hm
    rw [hm]
    simp only [Option.map_some]
    rw [eqV_eq h3]
  · cases h3
end Go.Rx
namespace Go.Proofs.YtfeapgpjchjphaaGreat
open Go Go.Rx Go.RowKit

def add64X (x y c : Int) : Option V :=
  if 0 ≤ x ∧ 0 ≤ y ∧ 0 ≤ c ∧ c ≤ 1 then some (.tup [.one (.v (.int .u64 ((x + y + c) % 18446744073709551616))), .one (.v (.int .u64 ((x + y + c) / 18446744073709551616)))]) else none
def sub64X (x y b : Int) : Option V :=
  if 0 ≤ x ∧ 0 ≤ y ∧ y < 18446744073709551616 ∧ 0 ≤ b ∧ b ≤ 1 then some (.tup [.one (.v (.int .u64 ((x - y - b) % 18446744073709551616))), .one (.v (.int .u64 (if x < y + b then 1 else 0)))]) else none
def extX (f : FuncId) (l : List V1) : Option V :=
  match l with
  | [.one (.v (.int .u64 x)), .one (.v (.int .u64 y)), .one (.v (.int .u64 c))] => bif Nat.beq f 119 then add64X x y c else bif Nat.beq f 120 then sub64X x y c else none
  | _ => none

theorem run_add (x y c : Int) (hx : 0 ≤ x) (hy : 0 ≤ y) (hc0 : 0 ≤ c) (hc : c ≤ 1) (w : World) : (callFunc 119 #[.int .u64 x, .int .u64 y, .int .u64 c]).run Tryz.prog w =
    .ok (.value (.tuple #[.int .u64 ((x + y + c) % 18446744073709551616), .int .u64 ((x + y + c) / 18446744073709551616)])) w := by
  obtain ⟨x, rfl⟩ := Int.eq_ofNat_of_zero_le hx
  obtain ⟨y, rfl⟩ := Int.eq_ofNat_of_zero_le hy
  obtain ⟨c, rfl⟩ := Int.eq_ofNat_of_zero_le hc0
  rw [run_callFunc_extern Tryz.func119 (by kernel_rfl) (by kernel_rfl) (by kernel_rfl) (e := add64Entry) (by kernel_rfl), run_add64 x y c (by omega) (by omega) (by omega) (by omega)]
  simp only [Result.andThen]
theorem run_sub (x y b : Int) (hx : 0 ≤ x) (hy : 0 ≤ y) (hy' : y < 18446744073709551616) (hb0 : 0 ≤ b) (hb : b ≤ 1) (w : World) : (callFunc 120 #[.int .u64 x, .int .u64 y, .int .u64 b]).run Tryz.prog w =
    .ok (.value (.tuple #[.int .u64 ((x - y - b) % 18446744073709551616), .int .u64 (if x < y + b then 1 else 0)])) w := by
  obtain ⟨x, rfl⟩ := Int.eq_ofNat_of_zero_le hx
  obtain ⟨y, rfl⟩ := Int.eq_ofNat_of_zero_le hy
  obtain ⟨b, rfl⟩ := Int.eq_ofNat_of_zero_le hb0
  rw [run_callFunc_extern Tryz.func120 (by kernel_rfl) (by kernel_rfl) (by kernel_rfl) (e := sub64Entry) (by kernel_rfl), run_sub64 x y b (by omega)]
  have e1 : (((x + 18446744073709551616 - y - b) % 18446744073709551616 : Nat) : Int) = ((x : Int) - y - b) % 18446744073709551616 := by omega
  have e2 : ((if x < y + b then 1 else 0 : Nat) : Int) = if (x : Int) < y + b then 1 else 0 := by split <;> split <;> omega
  rw [← e1, ← e2]
  rfl

theorem ext_ok (f : FuncId) (l : List V1) (v : V) (h : extX f l = some v) (ρ : Loc') (xs : List Value) (hx : All2 (D1 ρ) l xs) : ∃ x, DV ρ v x ∧ ∀ w, (callFunc f xs.toArray).run Tryz.prog w = .ok (.value x) w := by
  unfold extX at h
  split at h
  · rename_i x y c
    obtain ⟨x1, xs1, rfl, h1, hx⟩ := hx.cons_inv
    obtain ⟨x2, xs2, rfl, h2, hx⟩ := hx.cons_inv
    obtain ⟨x3, xs3, rfl, h3, hx⟩ := hx.cons_inv
    cases hx
    have := h1.one_inv.v_inv; subst this
    have := h2.one_inv.v_inv; subst this
    have := h3.one_inv.v_inv; subst this
    cases hb : Nat.beq f 119 with
    | true =>
      rw [hb] at h
      simp only [cond_true] at h
      have := beq_t hb; subst this
      unfold add64X at h
      split at h
      · rename_i hc
        simp only [Option.some.injEq] at h; subst h
        exact ⟨_, .tup (.cons (.one (.v rfl)) (.cons (.one (.v rfl)) .nil)), fun w => run_add x y c hc.1 hc.2.1 hc.2.2.1 hc.2.2.2 w⟩
      · cases h
    | false =>
      rw [hb] at h
      simp only [cond_false] at h
      cases hb' : Nat.beq f 120 with
      | true =>
        rw [hb'] at h
        simp only [cond_true] at h
        have := beq_t hb'; subst this
        unfold sub64X at h
        split at h
        · rename_i hc
          simp only [Option.some.injEq] at h; subst h
          exact ⟨_, .tup (.cons (.one (.v rfl)) (.cons (.one (.v rfl)) .nil)), fun w => run_sub x y c hc.1 hc.2.1 hc.2.2.1 hc.2.2.2.1 hc.2.2.2.2 w⟩
        · cases h
      | false => rw [hb'] at h; cases h
  · cases h

noncomputable def envOf (rs : List Row) : Env := ⟨Tryz.prog, extX, sumOf rs, lets0 fun _ => 0, fun _ _ _ => none⟩
theorem names_ok : (Tryz.prog.funcs.toList.all fun fn => !(fn.name == "runtime.NumGoroutine")) = true := by kernel_rfl
theorem env_ok {rs : List Row} (hr : ∀ r ∈ rs, Known Tryz.prog r.f r.l r.v) (W : World) : EnvOk (envOf rs) W where
  mixed := by show Tryz.prog.follows .mixedOrders = true; kernel_rfl
  name := fun f fn hf => by
    have h1 := List.all_eq_true.1 names_ok fn (by
      have : Tryz.prog.funcs[f]? = some fn := hf
      exact Array.mem_toList_iff.2 (Array.mem_of_getElem? this))
    simpa using h1
  ext := fun f l v h ρ xs _ hx => ext_ok f l v h ρ xs hx
  sum := fun f l v h ρ xs w _ _ hx => sumOf_known hr h ρ xs w hx
  test := fun _ _ _ _ h => (by cases h)
theorem env0 (W : World) : EnvOk (envOf []) W := env_ok (fun r h => (by cases h)) W
end Go.Proofs.YtfeapgpjchjphaaGreat
namespace Go.Proofs.YtfeapgpjchjphaaGreat
open Go Go.Rx Go.RowKit
def word (n i : Nat) : C := .v (.int .u64 ((n / 2 ^ (64 * i)) % 2 ^ 64 : Nat))
/-- A number from 0 to 2^512 - 1 in eight words. -/
def mag (n : Nat) : V1 := .agg [word n 0, word n 1, word n 2, word n 3, word n 4, word n 5, word n 6, word n 7]
/-- A wide integer. -/
def wide (z : Int) : V1 := mag (z % 2 ^ 512).toNat
def int (n : Int) : V1 := .one (.v (.int .i64 n))
def str (s : String) : V1 := .one (.v (.string s.toUTF8))
def ok (x : V1) : V := .tup [x, int 0]
def bad (e : Int) : V := .tup [mag 0, int e]
def big : V := bad 6
def okk (x y : V1) : V := .tup [x, y, int 0]
def badd (e : Int) : V := .tup [mag 0, mag 0, int e]
end Go.Proofs.YtfeapgpjchjphaaGreat
namespace Go.Rx
open Go Go.RowKit

def valC (σ : Nat → Int) : C → Value
  | .v x => x
  | .ex k e => .int k (e.eval σ)
  | _ => .nilFunc
def val1 (σ : Nat → Int) : V1 → Value
  | .one c => valC σ c
  | .agg l => .agg (l.map (valC σ)).toArray
def valV (σ : Nat → Int) : V → Value
  | .s x => val1 σ x
  | .tup l => .tuple (l.map (val1 σ)).toArray
def okC : C → Bool
  | .v x => x.oneCell'
  | .ex _ _ => true
  | _ => false
def ok1 : V1 → Bool
  | .one c => okC c
  | .agg l => l.all okC
def okV : V → Bool
  | .s x => ok1 x
  | .tup l => l.all ok1
section
variable {ρ : Loc'}
theorem okC_val {c : C} (h : okC c = true) : DC ρ c (valC ρ.val.num c) := by
  cases c with
  | v x => exact .v h
  | ex k e => exact .ex
  | _ => cases h
theorem okC_inv {c : C} (h : okC c = true) {x : Value} (hx : DC ρ c x) : x = valC ρ.val.num c := by
  cases c with
  | v x => exact hx.v_inv
  | ex k e => cases hx; rfl
  | _ => cases h
theorem All2.of_ok {α β : Type} {R : α → β → Prop} {p : α → Bool} {f : α → β} (h : ∀ a, p a = true → R a (f a)) : ∀ {l : List α}, l.all p = true → All2 R l (l.map f)
  | [], _ => .nil
  | a :: l, hp => by
    simp only [List.all_cons, Bool.and_eq_true] at hp
    exact .cons (h a hp.1) (All2.of_ok h hp.2)
theorem All2.inv_ok {α β : Type} {R : α → β → Prop} {p : α → Bool} {f : α → β} (h : ∀ a b, p a = true → R a b → b = f a) : ∀ {l : List α} {m : List β}, l.all p = true → All2 R l m → m = l.map f
  | _, _, _, .nil => rfl
  | _, _, hp, .cons x y => by
    simp only [List.all_cons, Bool.and_eq_true] at hp
    rw [List.map_cons, ← h _ _ hp.1 x, ← All2.inv_ok h hp.2 y]
theorem ok1_val {c : V1} (h : ok1 c = true) : D1 ρ c (val1 ρ.val.num c) := by
  cases c with
  | one c => exact .one (okC_val h)
  | agg l => exact .agg (All2.of_ok (fun _ => okC_val) h)
theorem ok1_inv {c : V1} (h : ok1 c = true) {x : Value} (hx : D1 ρ c x) : x = val1 ρ.val.num c := by
  cases c with
  | one c => exact okC_inv h hx.one_inv
  | agg l =>
    obtain ⟨xs, rfl, hxs⟩ := hx.agg_inv
    rw [All2.inv_ok (f := valC ρ.val.num) (fun _ _ h hx => okC_inv h hx) h hxs]
    rfl
theorem okV_val {c : V} (h : okV c = true) : DV ρ c (valV ρ.val.num c) := by
  cases c with
  | s x => exact .s (ok1_val h)
  | tup l => exact .tup (All2.of_ok (fun _ => ok1_val) h)
theorem okV_inv {c : V} (h : okV c = true) {x : Value} (hx : DV ρ c x) : x = valV ρ.val.num c := by
  cases c with
  | s y => cases hx; exact ok1_inv h (by assumption)
  | tup l =>
    obtain ⟨xs, rfl, hxs⟩ := hx.tup_inv
    rw [All2.inv_ok (f := val1 ρ.val.num) (fun _ _ h hx => ok1_inv h hx) h hxs]
    rfl
end

/-- A call of f at these values hands back x, whatever the world; nothing that was there has turned. -/
def Gives (P : Program) (f : FuncId) (xs : List Value) (x : Value) : Prop :=
  ∀ w : World, (callFunc f xs.toArray).run P w = .ok (.enter f xs.toArray) w ∧ Calls P f xs.toArray w fun e w' => e = .returned x ∧ Below w.heap.size w w'

theorem gives_of_run {E : Env} (hE : ∀ W, EnvOk E W) {fuel : Nat} {r : Row} (h : (r.l.all ok1 && okV r.v && isRun r (funX E fuel r.f r.l ⟨.e, 0, 0⟩)) = true) : Gives E.P r.f (r.l.map (val1 E.val.num)) (valV E.val.num r.v) := by
  simp only [Bool.and_eq_true] at h
  obtain ⟨⟨h1, h2⟩, h3⟩ := h
  unfold isRun at h3
  split at h3
  · rename_i v m hm
    have := eqV_eq h3
    subst this
    intro w
    have hR := run_ok (hE w) (code_ok (hE w) fuel)
    obtain ⟨k1, k2⟩ := hR.calls _ _ _ _ _ hm (noLoc E.val) (r.l.map (val1 E.val.num)) w rfl (All2.of_ok (fun _ => ok1_val) h1) (MemRel.empty w _)
    refine ⟨k1, k2.mono fun e w' he => ?_⟩
    obtain ⟨x, ρ', rfl, hx, _, h5, h6⟩ := he
    have := okV_inv h2 h5
    rw [hx.val] at this
    exact ⟨by rw [this]; rfl, h6.below⟩
  · cases h3

/-! ### Ranges -/
theorem wrap_u64 (n : Int) : IntKind.u64.wrap n = n % 18446744073709551616 := by
  simp [IntKind.wrap, IntKind.signed, IntKind.bits]
theorem u64_eq {k : IntKind} (h : u64 k = true) : k = .u64 := by cases k <;> first | rfl | cases h
theorem word_range {σ : Nat → Int} : ∀ {e : Exp}, e.word = true → 0 ≤ e.eval σ ∧ e.eval σ < 18446744073709551616 := by
  intro e h
  cases e with
  | inp k i =>
    have := u64_eq (k := k) h; subst this
    simp only [Exp.eval, wrap_u64]; omega
  | lit n => simp only [Exp.word, Bool.and_eq_true, decide_eq_true_eq] at h; exact h
  | wrap k a =>
    have := u64_eq (k := k) h; subst this
    simp only [Exp.eval, wrap_u64]; omega
  | addS a b c => simp only [Exp.eval]; omega
  | subS a b c => simp only [Exp.eval]; omega
  | bin op k a b =>
    simp only [Exp.word, Bool.and_eq_true] at h
    have := u64_eq h.1; subst this
    have h2 := h.2
    cases op <;> simp only at h2 <;> first
      | (cases h2; done)
      | (simp only [Exp.eval, arith, isShift, cond_false, intBin, numOf, wrap_u64]; omega)
      | (simp only [Exp.eval, arith, isShift, cond_true, shiftX]
         split
         · simp only [numOf]; omega
         · simp only [numOf, wrap_u64]; omega)
  | addC a b c => cases h
  | subC a b c => cases h
theorem bit_range {σ : Nat → Int} : ∀ {e : Exp}, e.bit = true → 0 ≤ e.eval σ ∧ e.eval σ ≤ 1 := by
  intro e
  induction e with
  | lit n => intro h; simp only [Exp.bit, Bool.and_eq_true, decide_eq_true_eq] at h; exact h
  | addC a b c _ _ ih =>
    intro h
    simp only [Exp.bit, Bool.and_eq_true] at h
    have h1 := word_range (σ := σ) h.1.1
    have h2 := word_range (σ := σ) h.1.2
    have h3 := ih h.2
    simp only [Exp.eval]
    omega
  | subC a b c => intro _; simp only [Exp.eval]; split <;> omega
  | _ => intro h; cases h

/-! ### Tests that are known -/
structure Test where
  op : BinOp
  a : Exp
  b : Exp
  r : Bool
def testOf : List Test → BinOp → Exp → Exp → Option Bool
  | [], _, _, _ => none
  | t :: ts, op, a, b => bif decide (t.op = op) && eqE t.a a && eqE t.b b then some t.r else testOf ts op a b
def TestOk (σ : Nat → Int) (t : Test) : Prop := ∀ k, intBin t.op k (t.a.eval σ) (t.b.eval σ) = some (.bool t.r)
theorem testOf_ok {σ : Nat → Int} : ∀ {ts : List Test}, (∀ t ∈ ts, TestOk σ t) → ∀ {op a b r}, testOf ts op a b = some r → ∀ k, intBin op k (a.eval σ) (b.eval σ) = some (.bool r)
  | [], _, op, a, b, r, h, k => by cases h
  | t :: ts, ht, op, a, b, r, h, k => by
    simp only [testOf] at h
    cases hc : decide (t.op = op) && eqE t.a a && eqE t.b b with
    | true =>
      rw [hc] at h
      simp only [cond_true, Option.some.injEq] at h
      subst h
      simp only [Bool.and_eq_true, decide_eq_true_eq] at hc
      obtain ⟨⟨h1, h2⟩, h3⟩ := hc
      subst h1
      rw [← eqE_eq h2, ← eqE_eq h3]
      exact ht t (by simp) k
    | false =>
      rw [hc] at h
      exact testOf_ok (fun t hm => ht t (by simp [hm])) h k
/-- A test between numbers without letters. -/
def litTest (op : BinOp) (a b : Exp) : Option Bool :=
  match a, b with
  | .lit m, .lit n => match intBin op .i64 m n with
    | some (.bool r) => some r
    | _ => none
  | _, _ => none
theorem litTest_ok {op : BinOp} {a b : Exp} {r : Bool} (h : litTest op a b = some r) (σ : Nat → Int) (k : IntKind) : intBin op k (a.eval σ) (b.eval σ) = some (.bool r) := by
  unfold litTest at h
  split at h
  · rename_i m n
    simp only [Exp.eval]
    cases op <;> simp [intBin] at h ⊢ <;> first
      | exact h
      | (split at h <;> first | (cases h; done) | (simp at h; done))
      | (cases h; done)
  · cases h
def RowGives (P : Program) (σ : Nat → Int) (r : Row) : Prop := (r.l.all ok1 && okV r.v) = true ∧ Gives P r.f (r.l.map (val1 σ)) (valV σ r.v)
theorem sumOf_gives {P : Program} {σ : Nat → Int} : ∀ {rs : List Row}, (∀ r ∈ rs, RowGives P σ r) → ∀ {f : FuncId} {l : List V1} {v : V}, sumOf rs f l = some v → (l.all ok1 && okV v) = true ∧ Gives P f (l.map (val1 σ)) (valV σ v)
  | [], _, f, l, v, h => by cases h
  | r :: rs, hr, f, l, v, h => by
    simp only [sumOf] at h
    cases hc : Nat.beq r.f f && eqL eq1 r.l l with
    | true =>
      rw [hc] at h
      simp only [cond_true, Option.some.injEq] at h
      subst h
      simp only [Bool.and_eq_true] at hc
      have h1 := beq_t hc.1
      have h2 := eqL_eq eq1_eq hc.2
      subst h1; subst h2
      exact hr r (by simp)
    | false =>
      rw [hc] at h
      exact sumOf_gives (fun r hm => hr r (by simp [hm])) h
end Go.Rx

namespace Go.Proofs.YtfeapgpjchjphaaGreat
open Go Go.Rx Go.RowKit
def addE (a b c : Exp) : Option V := bif a.word && b.word && c.bit then some (.tup [.one (.ex .u64 (.addS a b c)), .one (.ex .u64 (.addC a b c))]) else none
def subE (a b c : Exp) : Option V := bif a.word && b.word && c.bit then some (.tup [.one (.ex .u64 (.subS a b c)), .one (.ex .u64 (.subC a b c))]) else none
def extS (f : FuncId) (l : List V1) : Option V :=
  match extX f l with
  | some v => some v
  | none => match l with
    | [.one c, .one d, .one e] => match exC c, exC d, exC e with
      | some (.u64, a), some (.u64, b), some (.u64, c) => bif Nat.beq f 119 then addE a b c else bif Nat.beq f 120 then subE a b c else none
      | _, _, _ => none
    | _ => none
theorem extS_ok (f : FuncId) (l : List V1) (v : V) (h : extS f l = some v) (ρ : Loc') (xs : List Value) (hx : All2 (D1 ρ) l xs) : ∃ x, DV ρ v x ∧ ∀ w, (callFunc f xs.toArray).run Tryz.prog w = .ok (.value x) w := by
  unfold extS at h
  split at h
  · rename_i u hu
    simp only [Option.some.injEq] at h; subst h
    exact ext_ok f l u hu ρ xs hx
  · split at h
    · rename_i c d e
      split at h
      · rename_i a b q h1 h2 h3
        obtain ⟨x1, xs1, rfl, k1, hx⟩ := hx.cons_inv
        obtain ⟨x2, xs2, rfl, k2, hx⟩ := hx.cons_inv
        obtain ⟨x3, xs3, rfl, k3, hx⟩ := hx.cons_inv
        cases hx
        have e1 := exC_sound h1 k1.one_inv
        have e2 := exC_sound h2 k2.one_inv
        have e3 := exC_sound h3 k3.one_inv
        subst e1; subst e2; subst e3
        cases hb : Nat.beq f 119 with
        | true =>
          rw [hb] at h
          simp only [cond_true] at h
          have := beq_t hb; subst this
          unfold addE at h
          cases hc : a.word && b.word && q.bit with
          | false => rw [hc] at h; cases h
          | true =>
            rw [hc] at h
            simp only [cond_true, Option.some.injEq] at h; subst h
            simp only [Bool.and_eq_true] at hc
            have r1 := word_range (σ := ρ.val.num) hc.1.1
            have r2 := word_range (σ := ρ.val.num) hc.1.2
            have r3 := bit_range (σ := ρ.val.num) hc.2
            exact ⟨_, .tup (.cons (.one .ex) (.cons (.one .ex) .nil)), fun w => run_add _ _ _ r1.1 r2.1 r3.1 r3.2 w⟩
        | false =>
          rw [hb] at h
          simp only [cond_false] at h
          cases hb' : Nat.beq f 120 with
          | true =>
            rw [hb'] at h
            simp only [cond_true] at h
            have := beq_t hb'; subst this
            unfold subE at h
            cases hc : a.word && b.word && q.bit with
            | false => rw [hc] at h; cases h
            | true =>
              rw [hc] at h
              simp only [cond_true, Option.some.injEq] at h; subst h
              simp only [Bool.and_eq_true] at hc
              have r1 := word_range (σ := ρ.val.num) hc.1.1
              have r2 := word_range (σ := ρ.val.num) hc.1.2
              have r3 := bit_range (σ := ρ.val.num) hc.2
              exact ⟨_, .tup (.cons (.one .ex) (.cons (.one .ex) .nil)), fun w => run_sub _ _ _ r1.1 r2.1 r2.2 r3.1 r3.2 w⟩
          | false => rw [hb'] at h; cases h
      · cases h
    · cases h

noncomputable def envS (σ : Nat → Int) (rs : List Row) (ts : List Test) : Env :=
  ⟨Tryz.prog, extS, sumOf rs, lets0 σ, fun op a b => match litTest op a b with | some r => some r | none => testOf ts op a b⟩
theorem envS_ok {σ : Nat → Int} {rs : List Row} {ts : List Test} (hr : ∀ r ∈ rs, RowGives Tryz.prog σ r) (ht : ∀ t ∈ ts, TestOk σ t) (W : World) : EnvOk (envS σ rs ts) W where
  mixed := (env0 W).mixed
  name := (env0 W).name
  ext := fun f l v h ρ xs _ hx => extS_ok f l v h ρ xs hx
  sum := fun f l v h ρ xs w _ hV hx => by
    obtain ⟨h1, h2⟩ := sumOf_gives hr h
    simp only [Bool.and_eq_true] at h1
    have e := All2.inv_ok (f := val1 ρ.val.num) (fun _ _ h hx => ok1_inv h hx) h1.1 hx
    have hV' : ρ.val.num = σ := by rw [show ρ.val = lets0 σ from hV]; rfl
    subst e
    rw [hV']
    obtain ⟨k1, k2⟩ := h2 w
    refine ⟨k1, k2.mono fun e w' he => ?_⟩
    obtain ⟨rfl, hb⟩ := he
    exact ⟨_, rfl, by rw [← hV']; exact okV_val h1.2, hb⟩
  test := fun op a b r h k => by
    simp only [envS] at h ⊢
    split at h
    · rename_i q hq
      simp only [Option.some.injEq] at h; subst h
      exact litTest_ok hq σ k
    · exact testOf_ok ht h k
/-- A contract, by one run. -/
theorem run_gives (σ : Nat → Int) (rs : List Row) (ts : List Test) (hr : ∀ r ∈ rs, RowGives Tryz.prog σ r) (ht : ∀ t ∈ ts, TestOk σ t) (r : Row) (fuel : Nat)
    (h : ∀ σ, (r.l.all ok1 && okV r.v && isRun r (funX (envS σ rs ts) fuel r.f r.l ⟨.e, 0, 0⟩)) = true) : Gives Tryz.prog r.f (r.l.map (val1 σ)) (valV σ r.v) :=
  gives_of_run (envS_ok hr ht) (h σ)
end Go.Proofs.YtfeapgpjchjphaaGreat
namespace Go.Proofs.YtfeapgpjchjphaaGreat
open Go Go.Rx Go.RowKit

theorem split_of (a b c n : Nat) (e : 2 ^ c = n) (h : c = a + b) : n = 2 ^ a * 2 ^ b := by subst h; rw [← e, Nat.pow_add]
theorem p2_eight : 2 ^ (64 * 8) = 13407807929942597099574024998205846127479365820592393377723561443721764030073546976801874298166903427690031858186486050853753882811946569946433649006084096 := by kernel_rfl
theorem p2_split (i : Nat) (h : i ≤ 8) : 13407807929942597099574024998205846127479365820592393377723561443721764030073546976801874298166903427690031858186486050853753882811946569946433649006084096 = 2 ^ (64 * i) * 2 ^ (64 * 8 - 64 * i) := split_of _ _ (64 * 8) _ p2_eight (by omega)
/-- Word number i of n. -/
def dig (n i : Nat) : Nat := n / 2 ^ (64 * i) % 2 ^ 64
def magV (n : Nat) : Value := .agg #[.int .u64 (dig n 0), .int .u64 (dig n 1), .int .u64 (dig n 2), .int .u64 (dig n 3), .int .u64 (dig n 4), .int .u64 (dig n 5), .int .u64 (dig n 6), .int .u64 (dig n 7)]
def w8 (f : Nat → Exp) : V1 := .agg [.ex .u64 (f 0), .ex .u64 (f 1), .ex .u64 (f 2), .ex .u64 (f 3), .ex .u64 (f 4), .ex .u64 (f 5), .ex .u64 (f 6), .ex .u64 (f 7)]
def inW (k : Nat) : V1 := w8 fun i => .inp .u64 (k + i)
def sig2 (m n : Nat) (i : Nat) : Int := if i < 8 then (dig m i : Int) else (dig n (i - 8) : Int)
theorem dig_lt (n i : Nat) : dig n i < 18446744073709551616 := Nat.mod_lt _ (by decide)
theorem inp_sig2 (m n i : Nat) (h : i < 8) : (Exp.inp .u64 i).eval (sig2 m n) = dig m i := by
  have := dig_lt m i
  simp only [Exp.eval, wrap_u64, sig2, h, if_true]; omega
theorem inp_sig2' (m n i : Nat) : (Exp.inp .u64 (8 + i)).eval (sig2 m n) = dig n i := by
  have := dig_lt n i
  simp only [Exp.eval, wrap_u64, sig2, show ¬ (8 + i < 8) by omega, if_false, show 8 + i - 8 = i by omega]; omega
theorem val_w8 (σ : Nat → Int) (f : Nat → Exp) (n : Nat) (h : ∀ i, i < 8 → (f i).eval σ = dig n i) : val1 σ (w8 f) = magV n := by
  simp only [w8, val1, valC, magV, List.map_cons, List.map_nil, h 0 (by decide), h 1 (by decide), h 2 (by decide), h 3 (by decide), h 4 (by decide), h 5 (by decide), h 6 (by decide), h 7 (by decide)]
theorem val_in0 (m n : Nat) : val1 (sig2 m n) (inW 0) = magV m := val_w8 _ _ _ fun i hi => by
  have := inp_sig2 m n i hi
  rwa [show 0 + i = i by omega]
theorem val_in8 (m n : Nat) : val1 (sig2 m n) (inW 8) = magV n := val_w8 _ _ _ fun i _ => inp_sig2' m n i

/-! ### Adding word by word -/
def carryE : Nat → Exp
  | 0 => .lit 0
  | i + 1 => .addC (.inp .u64 i) (.inp .u64 (8 + i)) (carryE i)
def sumE (i : Nat) : Exp := .addS (.inp .u64 i) (.inp .u64 (8 + i)) (carryE i)
theorem pow_step (i : Nat) : 2 ^ (64 * (i + 1)) = 2 ^ (64 * i) * 2 ^ 64 := by rw [← Nat.pow_add]; congr 1
theorem low_step (m i : Nat) : m % 2 ^ (64 * (i + 1)) = 2 ^ (64 * i) * dig m i + m % 2 ^ (64 * i) := by
  rw [pow_step, Nat.mod_mul, dig]; omega
theorem add_step (m n i : Nat) : (m % 2 ^ (64 * (i + 1)) + n % 2 ^ (64 * (i + 1))) / 2 ^ (64 * (i + 1)) = (dig m i + dig n i + (m % 2 ^ (64 * i) + n % 2 ^ (64 * i)) / 2 ^ (64 * i)) / 2 ^ 64 := by
  have hB : 0 < 2 ^ (64 * i) := Nat.pow_pos (by decide)
  rw [low_step, low_step, pow_step]
  generalize 2 ^ (64 * i) = B at *
  rw [← Nat.div_div_eq_div_mul]
  congr 1
  rw [show B * dig m i + m % B + (B * dig n i + n % B) = (m % B + n % B) + B * (dig m i + dig n i) by rw [Nat.mul_add]; omega]
  rw [Nat.add_mul_div_left _ _ hB]
  omega
theorem carry_eval (m n : Nat) : ∀ i, i ≤ 8 → (carryE i).eval (sig2 m n) = ((m % 2 ^ (64 * i) + n % 2 ^ (64 * i)) / 2 ^ (64 * i) : Nat)
  | 0, _ => by simp [carryE, Exp.eval, Nat.mod_one]
  | i + 1, h => by
    simp only [carryE, Exp.eval]
    have h1 := inp_sig2 m n i (by omega)
    have h2 := inp_sig2' m n i
    simp only [Exp.eval] at h1 h2
    rw [h1, h2, carry_eval m n i (by omega), add_step]
    simp only [Int.natCast_ediv, Int.natCast_add]
    rfl
theorem sum_digit (m n i : Nat) : (dig m i + dig n i + (m % 2 ^ (64 * i) + n % 2 ^ (64 * i)) / 2 ^ (64 * i)) % 2 ^ 64 = dig (m + n) i := by
  have hB : 0 < 2 ^ (64 * i) := Nat.pow_pos (by decide)
  unfold dig
  generalize 2 ^ (64 * i) = B at *
  have e : (m + n) / B = m / B + n / B + (m % B + n % B) / B := by
    have h1 : m + n = (m % B + n % B) + B * (m / B + n / B) := by
      have := Nat.div_add_mod m B; have := Nat.div_add_mod n B
      rw [Nat.mul_add]; omega
    conv => lhs; rw [h1]
    rw [Nat.add_mul_div_left _ _ hB]
    omega
  rw [e]
  omega
theorem sum_eval (m n i : Nat) (h : i < 8) : (sumE i).eval (sig2 m n) = dig (m + n) i := by
  simp only [sumE, Exp.eval]
  have h1 := inp_sig2 m n i h
  have h2 := inp_sig2' m n i
  simp only [Exp.eval] at h1 h2
  rw [h1, h2, carry_eval m n i (by omega), ← sum_digit]
  simp only [Int.natCast_emod, Int.natCast_add]
  rfl
theorem dig_mod (n i : Nat) (h : i < 8) : dig (n % 13407807929942597099574024998205846127479365820592393377723561443721764030073546976801874298166903427690031858186486050853753882811946569946433649006084096) i = dig n i := by
  unfold dig
  rw [p2_split i (by omega), Nat.mod_mul_right_div_self, Nat.mod_mod_of_dvd]
  exact Nat.pow_dvd_pow 2 (by omega)
theorem magV_mod (n : Nat) : magV (n % 13407807929942597099574024998205846127479365820592393377723561443721764030073546976801874298166903427690031858186486050853753882811946569946433649006084096) = magV n := by
  simp only [magV, dig_mod n _ (show 0 < 8 by decide), dig_mod n _ (show 1 < 8 by decide), dig_mod n _ (show 2 < 8 by decide), dig_mod n _ (show 3 < 8 by decide), dig_mod n _ (show 4 < 8 by decide), dig_mod n _ (show 5 < 8 by decide), dig_mod n _ (show 6 < 8 by decide), dig_mod n _ (show 7 < 8 by decide)]

theorem pow512 : 0 < 13407807929942597099574024998205846127479365820592393377723561443721764030073546976801874298166903427690031858186486050853753882811946569946433649006084096 := by decide
theorem div_is_zero (x B : Nat) (hB : 0 < B) : (((x / B : Nat) : Int) == 0) = decide (x < B) := by
  rw [Bool.eq_iff_iff]
  simp only [beq_iff_eq, decide_eq_true_eq]
  constructor
  · intro h
    have h' : x / B = 0 := by exact_mod_cast h
    rcases (Nat.div_eq_zero_iff).1 h' with h'' | h''
    · omega
    · exact h''
  · intro h
    have h' : x / B = 0 := Nat.div_eq_of_lt h
    exact_mod_cast h'
def b1 (b : Bool) : V1 := .one (.v (.bool b))
/-- (magnitude).sum. -/
theorem f_sum (m n : Nat) (hm : m < 13407807929942597099574024998205846127479365820592393377723561443721764030073546976801874298166903427690031858186486050853753882811946569946433649006084096) (hn : n < 13407807929942597099574024998205846127479365820592393377723561443721764030073546976801874298166903427690031858186486050853753882811946569946433649006084096) : Gives Tryz.prog 103 [magV m, magV n] (.tuple #[magV (m + n), .bool (decide (m + n < 13407807929942597099574024998205846127479365820592393377723561443721764030073546976801874298166903427690031858186486050853753882811946569946433649006084096))]) := by
  have hc : (carryE 8).eval (sig2 m n) = ((m + n) / 13407807929942597099574024998205846127479365820592393377723561443721764030073546976801874298166903427690031858186486050853753882811946569946433649006084096 : Nat) := by
    rw [carry_eval m n 8 (by decide), p2_eight]
    rw [Nat.mod_eq_of_lt hm, Nat.mod_eq_of_lt hn]
  have key : ∀ b, TestOk (sig2 m n) ⟨.eql, carryE 8, .lit 0, b⟩ → Gives Tryz.prog 103 [magV m, magV n] (.tuple #[magV (m + n), .bool b]) := fun b ht => by
    have := run_gives (sig2 m n) [] [⟨.eql, carryE 8, .lit 0, b⟩] (fun r h => (by cases h)) (fun t h => by simp only [List.mem_cons, List.not_mem_nil, or_false] at h; subst h; exact ht)
      ⟨103, [inW 0, inW 8], .tup [w8 sumE, b1 b]⟩ 100 (fun σ => by cases b <;> kernel_rfl)
    simp only [List.map_cons, List.map_nil, val_in0, val_in8, valV] at this
    rw [val_w8 (sig2 m n) sumE (m + n) (fun i hi => sum_eval m n i hi)] at this
    exact this
  refine key _ fun k => ?_
  simp only [intBin, hc, Exp.eval]
  rw [div_is_zero _ _ pow512]
end Go.Proofs.YtfeapgpjchjphaaGreat
namespace Go.Proofs.YtfeapgpjchjphaaGreat
open Go Go.Rx Go.RowKit

theorem eval_subC (σ : Nat → Int) (a b c : Exp) : (Exp.subC a b c).eval σ = if a.eval σ < b.eval σ + c.eval σ then 1 else 0 := rfl
theorem eval_subS (σ : Nat → Int) (a b c : Exp) : (Exp.subS a b c).eval σ = (a.eval σ - b.eval σ - c.eval σ) % 18446744073709551616 := rfl
def borrowE : Nat → Exp
  | 0 => .lit 0
  | i + 1 => .subC (.inp .u64 i) (.inp .u64 (8 + i)) (borrowE i)
def diffE (i : Nat) : Exp := .subS (.inp .u64 i) (.inp .u64 (8 + i)) (borrowE i)
theorem lex_lt (B x y r s : Nat) (hr : r < B) (hs : s < B) : B * x + r < B * y + s ↔ x < y + (if r < s then 1 else 0) := by
  have mono : ∀ p q : Nat, p < q → B * p + B ≤ B * q := fun p q h => by
    have := Nat.mul_le_mul_left B (Nat.succ_le_of_lt h)
    rwa [Nat.mul_succ] at this
  rcases Nat.lt_trichotomy x y with h | h | h
  · have := mono x y h
    split <;> omega
  · subst h
    split <;> omega
  · have := mono y x h
    split <;> omega
theorem borrow_eval (m n : Nat) : ∀ i, i ≤ 8 → (borrowE i).eval (sig2 m n) = if m % 2 ^ (64 * i) < n % 2 ^ (64 * i) then 1 else 0
  | 0, _ => by simp [borrowE, Exp.eval, Nat.mod_one]
  | i + 1, h => by
    rw [borrowE, eval_subC, inp_sig2 m n i (by omega), inp_sig2' m n i, borrow_eval m n i (by omega), low_step, low_step]
    have hB : 0 < 2 ^ (64 * i) := Nat.pow_pos (by decide)
    have hl := lex_lt (2 ^ (64 * i)) (dig m i) (dig n i) _ _ (Nat.mod_lt m hB) (Nat.mod_lt n hB)
    generalize 2 ^ (64 * i) = B at *
    by_cases hc : m % B < n % B
    · simp only [hc, if_true] at hl ⊢
      by_cases hd : dig m i < dig n i + 1
      · rw [if_pos (hl.2 hd), if_pos (by omega)]
      · rw [if_neg (fun k => hd (hl.1 k)), if_neg (by omega)]
    · simp only [hc, if_false] at hl ⊢
      by_cases hd : dig m i < dig n i + 0
      · rw [if_pos (hl.2 hd), if_pos (by omega)]
      · rw [if_neg (fun k => hd (hl.1 k)), if_neg (by omega)]
theorem dvd512 (i : Nat) (h : i ≤ 8) : 2 ^ (64 * i) ∣ 13407807929942597099574024998205846127479365820592393377723561443721764030073546976801874298166903427690031858186486050853753882811946569946433649006084096 := ⟨_, p2_split i h⟩
theorem diff_eval (m n i : Nat) (h : i < 8) (hn : n < 13407807929942597099574024998205846127479365820592393377723561443721764030073546976801874298166903427690031858186486050853753882811946569946433649006084096) : (diffE i).eval (sig2 m n) = dig (m + 13407807929942597099574024998205846127479365820592393377723561443721764030073546976801874298166903427690031858186486050853753882811946569946433649006084096 - n) i := by
  rw [diffE, eval_subS, inp_sig2 m n i h, inp_sig2' m n i, borrow_eval m n i (by omega)]
  have hB : 0 < 2 ^ (64 * i) := Nat.pow_pos (by decide)
  have hz : ∃ z, m + 13407807929942597099574024998205846127479365820592393377723561443721764030073546976801874298166903427690031858186486050853753882811946569946433649006084096 - n = z ∧ z + n = m + 13407807929942597099574024998205846127479365820592393377723561443721764030073546976801874298166903427690031858186486050853753882811946569946433649006084096 := ⟨_, rfl, Nat.sub_add_cancel (Nat.le_of_lt (Nat.lt_of_lt_of_le hn (Nat.le_add_left _ _)))⟩
  obtain ⟨z, hz1, hz2⟩ := hz
  rw [hz1]
  have hs := sum_digit z n i
  rw [hz2] at hs
  have hd : dig (m + 13407807929942597099574024998205846127479365820592393377723561443721764030073546976801874298166903427690031858186486050853753882811946569946433649006084096) i = dig m i := by
    rw [← dig_mod (m + 13407807929942597099574024998205846127479365820592393377723561443721764030073546976801874298166903427690031858186486050853753882811946569946433649006084096) i h, Nat.add_mod_right, dig_mod m i h]
  rw [hd] at hs
  have hmod : (z % 2 ^ (64 * i) + n % 2 ^ (64 * i)) % 2 ^ (64 * i) = m % 2 ^ (64 * i) := by
    rw [← Nat.add_mod, hz2]
    obtain ⟨q, hq⟩ := dvd512 i (by omega)
    rw [hq, Nat.add_mul_mod_self_left]
  have hzl := Nat.mod_lt z hB
  have hnl := Nat.mod_lt n hB
  have hml := Nat.mod_lt m hB
  have d1 := dig_lt z i
  have d2 := dig_lt n i
  have d3 := dig_lt m i
  generalize 2 ^ (64 * i) = B at *
  have hp : (2 : Nat) ^ 64 = 18446744073709551616 := by decide
  rw [hp] at hs
  by_cases hc : z % B + n % B < B
  · rw [Nat.mod_eq_of_lt hc] at hmod
    rw [Nat.div_eq_of_lt hc] at hs
    rw [if_neg (by omega)]
    omega
  · have e1 : (z % B + n % B) / B = 1 := by
      rw [Nat.div_eq_sub_div hB (by omega), Nat.div_eq_of_lt (by omega)]
    have e2 : (z % B + n % B) % B = z % B + n % B - B := by
      rw [Nat.mod_eq_sub_mod (by omega), Nat.mod_eq_of_lt (by omega)]
    rw [e2] at hmod
    rw [e1] at hs
    rw [if_pos (by omega)]
    omega
/-- (magnitude).difference. -/
theorem f_diff (m n : Nat) (hn : n < 13407807929942597099574024998205846127479365820592393377723561443721764030073546976801874298166903427690031858186486050853753882811946569946433649006084096) : Gives Tryz.prog 104 [magV m, magV n] (magV (m + 13407807929942597099574024998205846127479365820592393377723561443721764030073546976801874298166903427690031858186486050853753882811946569946433649006084096 - n)) := by
  have := run_gives (sig2 m n) [] [] (fun r h => (by cases h)) (fun t h => (by cases h)) ⟨104, [inW 0, inW 8], .s (w8 diffE)⟩ 100 (fun σ => by kernel_rfl)
  simp only [List.map_cons, List.map_nil, val_in0, val_in8, valV] at this
  rw [val_w8 (sig2 m n) diffE (m + 13407807929942597099574024998205846127479365820592393377723561443721764030073546976801874298166903427690031858186486050853753882811946569946433649006084096 - n) (fun i hi => diff_eval m n i hi hn)] at this
  exact this

/-! ### Comparing -/
def cmpI (a b : Int) : Int := if a < b then -1 else if b < a then 1 else 0
def i1 (n : Int) : V1 := .one (.v (.int .i64 n))
def e1 (k : IntKind) (i : Nat) : V1 := .one (.ex k (.inp k i))
def sigA (a b : Int) (i : Nat) : Int := if i = 0 then a else b
theorem f_cmp64 (a b : Int) (ha : 0 ≤ a ∧ a < 18446744073709551616) (hb : 0 ≤ b ∧ b < 18446744073709551616) : Gives Tryz.prog 84 [.int .u64 a, .int .u64 b] (.int .i64 (cmpI a b)) := by
  have ea : (Exp.inp .u64 0).eval (sigA a b) = a := by simp only [Exp.eval, wrap_u64, sigA]; simp; omega
  have eb : (Exp.inp .u64 1).eval (sigA a b) = b := by simp only [Exp.eval, wrap_u64, sigA]; simp; omega
  have key : ∀ (lt gt : Bool) (r : Int), decide (a < b) = lt → decide (a > b) = gt → (lt = true → r = -1) → (lt = false → gt = true → r = 1) → (lt = false → gt = false → r = 0) → Gives Tryz.prog 84 [.int .u64 a, .int .u64 b] (.int .i64 r) := by
    intro lt gt r h1 h2 h3 h4 h5
    have ht : ∀ t ∈ [(⟨.neq, .inp .u64 0, .inp .u64 0, false⟩ : Test), ⟨.neq, .inp .u64 1, .inp .u64 1, false⟩, ⟨.lss, .inp .u64 0, .inp .u64 1, lt⟩, ⟨.gtr, .inp .u64 0, .inp .u64 1, gt⟩], TestOk (sigA a b) t := by
      intro t ht k
      simp only [List.mem_cons, List.not_mem_nil, or_false] at ht
      rcases ht with rfl | rfl | rfl | rfl <;> simp only [intBin, ea, eb, h1, h2] <;> simp
    have h6 : r = if lt then -1 else if gt then 1 else 0 := by
      cases lt <;> cases gt <;> simp_all
    have := run_gives (sigA a b) [] _ (fun r h => (by cases h)) ht ⟨84, [e1 .u64 0, e1 .u64 1], .s (i1 (if lt then -1 else if gt then 1 else 0))⟩ 100 (fun σ => by cases lt <;> cases gt <;> kernel_rfl)
    simp only [List.map_cons, List.map_nil, val1, valC, e1, i1, valV, ea, eb] at this
    rw [h6]; exact this
  refine key _ _ _ rfl rfl (fun h => ?_) (fun h h' => ?_) (fun h h' => ?_)
  · simp only [decide_eq_true_eq] at h; simp [cmpI, h]
  · simp only [decide_eq_true_eq, decide_eq_false_iff_not] at h h'; simp only [cmpI]; rw [if_neg h, if_pos h']
  · simp only [decide_eq_false_iff_not] at h h'; simp only [cmpI]; rw [if_neg h, if_neg h']
end Go.Proofs.YtfeapgpjchjphaaGreat
namespace Go.Proofs.YtfeapgpjchjphaaGreat
open Go Go.Rx Go.RowKit

/-- Two magnitudes, and further numbers. -/
def sig3 (m n : Nat) (x : Nat → Int) (i : Nat) : Int := if i < 8 then (dig m i : Int) else if i < 16 then (dig n (i - 8) : Int) else x (i - 16)
theorem inp_sig3 (m n : Nat) (x : Nat → Int) (i : Nat) (h : i < 8) : (Exp.inp .u64 i).eval (sig3 m n x) = dig m i := by
  have := dig_lt m i
  simp only [Exp.eval, wrap_u64, sig3, h, if_true]; omega
theorem inp_sig3' (m n : Nat) (x : Nat → Int) (i : Nat) (h : i < 8) : (Exp.inp .u64 (8 + i)).eval (sig3 m n x) = dig n i := by
  have := dig_lt n i
  simp only [Exp.eval, wrap_u64, sig3, show ¬ (8 + i < 8) by omega, show 8 + i < 16 by omega, if_false, if_true, show 8 + i - 8 = i by omega]; omega
theorem inp_sig3x (m n : Nat) (x : Nat → Int) (k : IntKind) (i : Nat) : (Exp.inp k (16 + i)).eval (sig3 m n x) = k.wrap (x i) := by
  simp only [Exp.eval, sig3, show ¬ (16 + i < 8) by omega, show ¬ (16 + i < 16) by omega, if_false, show 16 + i - 16 = i by omega]
theorem val3_in0 (m n : Nat) (x : Nat → Int) : val1 (sig3 m n x) (inW 0) = magV m := val_w8 _ _ _ fun i hi => by
  have := inp_sig3 m n x i hi
  rwa [show 0 + i = i by omega]
theorem val3_in8 (m n : Nat) (x : Nat → Int) : val1 (sig3 m n x) (inW 8) = magV n := val_w8 _ _ _ fun i hi => inp_sig3' m n x i hi

theorem map3 (m n : Nat) (x : Nat → Int) : [inW 0, inW 8].map (val1 (sig3 m n x)) = [magV m, magV n] := by rw [List.map_cons, List.map_cons, List.map_nil, val3_in0, val3_in8]
theorem val_out (m n : Nat) (x : Nat → Int) (k : IntKind) (i : Nat) : valV (sig3 m n x) (.s (.one (.ex k (.inp k (16 + i))))) = .int k (k.wrap (x i)) := by
  show Value.int k ((Exp.inp k (16 + i)).eval (sig3 m n x)) = _
  rw [inp_sig3x]
theorem cmpI_range (a b : Int) : -1 ≤ cmpI a b ∧ cmpI a b ≤ 1 := by
  unfold cmpI; split
  · omega
  · split <;> omega
theorem wrap_small (r : Int) (h : -1 ≤ r ∧ r ≤ 1) : IntKind.i64.wrap r = r := by
  have : r = -1 ∨ r = 0 ∨ r = 1 := by omega
  rcases this with rfl | rfl | rfl <;> decide

theorem div_step (m p : Nat) : m / 2 ^ (64 * p) = m / 2 ^ (64 * (p + 1)) * 2 ^ 64 + dig m p := by
  rw [pow_step, ← Nat.div_div_eq_div_mul, dig]
  have := Nat.div_add_mod (m / 2 ^ (64 * p)) (2 ^ 64)
  omega
theorem high_eq (m n j : Nat) (hm : m < 13407807929942597099574024998205846127479365820592393377723561443721764030073546976801874298166903427690031858186486050853753882811946569946433649006084096) (hn : n < 13407807929942597099574024998205846127479365820592393377723561443721764030073546976801874298166903427690031858186486050853753882811946569946433649006084096) (h : ∀ i, j ≤ i → i < 8 → dig m i = dig n i) : j ≤ 8 → m / 2 ^ (64 * j) = n / 2 ^ (64 * j) := by
  intro hj
  obtain ⟨k, hk⟩ : ∃ k, j + k = 8 := ⟨8 - j, by omega⟩
  induction k generalizing j with
  | zero =>
    have : j = 8 := by omega
    subst this
    rw [p2_eight, Nat.div_eq_of_lt hm, Nat.div_eq_of_lt hn]
  | succ k ih =>
    rw [div_step m j, div_step n j, ih (j + 1) (fun i h1 h2 => h i (by omega) h2) (by omega) (by omega), h j (Nat.le_refl _) (by omega)]
theorem cmp_dig (m n j : Nat) (hm : m < 13407807929942597099574024998205846127479365820592393377723561443721764030073546976801874298166903427690031858186486050853753882811946569946433649006084096) (hn : n < 13407807929942597099574024998205846127479365820592393377723561443721764030073546976801874298166903427690031858186486050853753882811946569946433649006084096) (hj : j < 8) (h : ∀ i, j < i → i < 8 → dig m i = dig n i) (h0 : dig m j ≠ dig n j ∨ j = 0) : cmpI (dig m j) (dig n j) = cmpI m n := by
  have hq := high_eq m n (j + 1) hm hn (fun i h1 h2 => h i (by omega) h2) (by omega)
  have hB : 0 < 2 ^ (64 * j) := Nat.pow_pos (by decide)
  have em := low_step m j
  have en := low_step n j
  have dm := Nat.div_add_mod m (2 ^ (64 * (j + 1)))
  have dn := Nat.div_add_mod n (2 ^ (64 * (j + 1)))
  have hl := lex_lt (2 ^ (64 * j)) (dig m j) (dig n j) _ _ (Nat.mod_lt m hB) (Nat.mod_lt n hB)
  have hl' := lex_lt (2 ^ (64 * j)) (dig n j) (dig m j) _ _ (Nat.mod_lt n hB) (Nat.mod_lt m hB)
  have hz : j = 0 → m % 2 ^ (64 * j) = 0 ∧ n % 2 ^ (64 * j) = 0 := fun e => by subst e; simp [Nat.mod_one]
  rw [hq] at dm
  have hlt : dig m j < dig n j ↔ m < n := by
    constructor
    · intro hc
      have := hl.2 (by omega)
      omega
    · intro hc
      have h1 := hl.1 (by omega)
      rcases h0 with h0 | h0
      · split at h1 <;> omega
      · have := hz h0
        rw [if_neg (by omega)] at h1
        omega
  have hgt : dig n j < dig m j ↔ n < m := by
    constructor
    · intro hc
      have := hl'.2 (by omega)
      omega
    · intro hc
      have h1 := hl'.1 (by omega)
      rcases h0 with h0 | h0
      · split at h1 <;> omega
      · have := hz h0
        rw [if_neg (by omega)] at h1
        omega
  unfold cmpI
  have a1 : ((dig m j : Int) < (dig n j : Int)) = ((m : Int) < (n : Int)) := by
    rw [Int.ofNat_lt, Int.ofNat_lt]; exact propext hlt
  have a2 : ((dig n j : Int) < (dig m j : Int)) = ((n : Int) < (m : Int)) := by
    rw [Int.ofNat_lt, Int.ofNat_lt]; exact propext hgt
  simp only [a1, a2]

def cmpTests (j : Nat) : List Test := ((List.range (7 - j)).map fun t => (⟨.neq, .inp .u64 (0 + (7 - t)), .inp .u64 (8 + (7 - t)), false⟩ : Test)) ++ (if j = 0 then [] else [⟨.neq, .inp .u64 (0 + j), .inp .u64 (8 + j), true⟩])
def cmpRow (j : Nat) : Row := ⟨84, [.one (.ex .u64 (.inp .u64 (0 + j))), .one (.ex .u64 (.inp .u64 (8 + j)))], .s (.one (.ex .i64 (.inp .i64 (16 + 0))))⟩
def outRow (f : FuncId) (l : List V1) (k : IntKind) : Row := ⟨f, l, .s (.one (.ex k (.inp k (16 + 0))))⟩
noncomputable def runs (σ : Nat → Int) (rs : List Row) (ts : List Test) (r : Row) (fuel : Nat) : Bool := r.l.all ok1 && okV r.v && isRun r (funX (envS σ rs ts) fuel r.f r.l ⟨.e, 0, 0⟩)
theorem cmp_run0 (σ : Nat → Int) : runs σ [cmpRow 0] (cmpTests 0) (outRow 72 [inW 0, inW 8] .i64) 100 = true := by kernel_rfl
theorem cmp_run1 (σ : Nat → Int) : runs σ [cmpRow 1] (cmpTests 1) (outRow 72 [inW 0, inW 8] .i64) 100 = true := by kernel_rfl
theorem cmp_run2 (σ : Nat → Int) : runs σ [cmpRow 2] (cmpTests 2) (outRow 72 [inW 0, inW 8] .i64) 100 = true := by kernel_rfl
theorem cmp_run3 (σ : Nat → Int) : runs σ [cmpRow 3] (cmpTests 3) (outRow 72 [inW 0, inW 8] .i64) 100 = true := by kernel_rfl
theorem cmp_run4 (σ : Nat → Int) : runs σ [cmpRow 4] (cmpTests 4) (outRow 72 [inW 0, inW 8] .i64) 100 = true := by kernel_rfl
theorem cmp_run5 (σ : Nat → Int) : runs σ [cmpRow 5] (cmpTests 5) (outRow 72 [inW 0, inW 8] .i64) 100 = true := by kernel_rfl
theorem cmp_run6 (σ : Nat → Int) : runs σ [cmpRow 6] (cmpTests 6) (outRow 72 [inW 0, inW 8] .i64) 100 = true := by kernel_rfl
theorem cmp_run7 (σ : Nat → Int) : runs σ [cmpRow 7] (cmpTests 7) (outRow 72 [inW 0, inW 8] .i64) 100 = true := by kernel_rfl
theorem cmp_run (j : Nat) (hj : j < 8) (σ : Nat → Int) : runs σ [cmpRow j] (cmpTests j) (outRow 72 [inW 0, inW 8] .i64) 100 = true := by
  have : j = 0 ∨ j = 1 ∨ j = 2 ∨ j = 3 ∨ j = 4 ∨ j = 5 ∨ j = 6 ∨ j = 7 := by omega
  rcases this with rfl | rfl | rfl | rfl | rfl | rfl | rfl | rfl
  · exact cmp_run0 σ
  · exact cmp_run1 σ
  · exact cmp_run2 σ
  · exact cmp_run3 σ
  · exact cmp_run4 σ
  · exact cmp_run5 σ
  · exact cmp_run6 σ
  · exact cmp_run7 σ
/-- (magnitude).compare. -/
theorem f_compare (m n : Nat) (hm : m < 13407807929942597099574024998205846127479365820592393377723561443721764030073546976801874298166903427690031858186486050853753882811946569946433649006084096) (hn : n < 13407807929942597099574024998205846127479365820592393377723561443721764030073546976801874298166903427690031858186486050853753882811946569946433649006084096) : Gives Tryz.prog 72 [magV m, magV n] (.int .i64 (cmpI m n)) := by
  have key : ∀ j, j < 8 → (∀ i, j < i → i < 8 → dig m i = dig n i) → (dig m j ≠ dig n j ∨ j = 0) → Gives Tryz.prog 72 [magV m, magV n] (.int .i64 (cmpI m n)) := by
    intro j hj h h0
    let x : Nat → Int := fun _ => cmpI m n
    have e0 := inp_sig3 m n x
    have e8 := inp_sig3' m n x
    have ht : ∀ t ∈ cmpTests j, TestOk (sig3 m n x) t := by
      intro t ht k
      simp only [cmpTests, List.mem_append, List.mem_map, List.mem_range] at ht
      rcases ht with ⟨q, hq, rfl⟩ | ht
      · simp only [intBin]
        rw [Nat.zero_add, e0 (7 - q) (by omega), e8 (7 - q) (by omega), h (7 - q) (by omega) (by omega)]
        simp
      · split at ht
        · cases ht
        · rename_i hj0
          simp only [List.mem_cons, List.not_mem_nil, or_false] at ht
          subst ht
          simp only [intBin]
          rw [Nat.zero_add, e0 j hj, e8 j hj]
          have hne := h0.resolve_right hj0
          congr 2
          simp only [bne_iff_ne, ne_eq]
          omega
    have hr : ∀ r ∈ [cmpRow j], RowGives Tryz.prog (sig3 m n x) r := by
      intro r hr
      simp only [List.mem_cons, List.not_mem_nil, or_false] at hr
      subst hr
      refine ⟨rfl, ?_⟩
      have hf := f_cmp64 (dig m j) (dig n j) ⟨by omega, by have := dig_lt m j; omega⟩ ⟨by omega, by have := dig_lt n j; omega⟩
      rw [cmp_dig m n j hm hn hj h h0] at hf
      simp only [cmpRow, List.map_cons, List.map_nil, val1, valC, valV]
      rw [Nat.zero_add, e0 j hj, e8 j hj, inp_sig3x m n x .i64 0, wrap_small _ (cmpI_range _ _)]
      exact hf
    have := run_gives (sig3 m n x) [cmpRow j] (cmpTests j) hr ht (outRow 72 [inW 0, inW 8] .i64) 100 (cmp_run j hj)
    simp only [outRow] at this
    rw [map3, val_out] at this
    rw [wrap_small _ (cmpI_range _ _)] at this
    exact this
  have find : ∀ k, k ≤ 7 → (∀ i, k < i → i < 8 → dig m i = dig n i) → Gives Tryz.prog 72 [magV m, magV n] (.int .i64 (cmpI m n)) := by
    intro k
    induction k with
    | zero => intro hk h; exact key 0 (by decide) h (.inr rfl)
    | succ k ih =>
      intro hk h
      by_cases he : dig m (k + 1) = dig n (k + 1)
      · exact ih (by omega) fun i h1 h2 => by
          by_cases hi : i = k + 1
          · subst hi; exact he
          · exact h i (by omega) h2
      · exact key (k + 1) (by omega) h (.inl he)
  exact find 7 (by decide) fun i h1 h2 => by omega
end Go.Proofs.YtfeapgpjchjphaaGreat
namespace Go.Proofs.YtfeapgpjchjphaaGreat
open Go Go.Rx Go.RowKit

/-- Letters that stand for the words of numbers, eight a number. -/
def sigN (f : Nat → Nat) (i : Nat) : Int := dig (f (i / 8)) (i % 8)
theorem inp_sigN (f : Nat → Nat) (k i : Nat) (h : i < 8) : (Exp.inp .u64 (8 * k + i)).eval (sigN f) = dig (f k) i := by
  have := dig_lt (f k) i
  simp only [Exp.eval, wrap_u64, sigN, show (8 * k + i) / 8 = k by omega, show (8 * k + i) % 8 = i by omega]; omega
def inN (k : Nat) : V1 := inW (8 * k)
theorem val_inN (f : Nat → Nat) (k : Nat) : val1 (sigN f) (inN k) = magV (f k) := val_w8 _ _ _ fun i hi => inp_sigN f k i hi
theorem val_i1 (σ : Nat → Int) (n : Int) : val1 σ (i1 n) = .int .i64 n := rfl
theorem val_b1 (σ : Nat → Int) (b : Bool) : val1 σ (b1 b) = .bool b := rfl
theorem one_row {P : Program} {σ : Nat → Int} {r : Row} (h : RowGives P σ r) : ∀ q ∈ [r], RowGives P σ q := fun q hq => by
  simp only [List.mem_cons, List.not_mem_nil, or_false] at hq; subst hq; exact h
theorem no_row {P : Program} {σ : Nat → Int} : ∀ q ∈ ([] : List Row), RowGives P σ q := fun q hq => by cases hq
theorem more_row {P : Program} {σ : Nat → Int} {r : Row} {rs : List Row} (h : RowGives P σ r) (h' : ∀ q ∈ rs, RowGives P σ q) : ∀ q ∈ r :: rs, RowGives P σ q := fun q hq => by
  simp only [List.mem_cons] at hq
  rcases hq with rfl | hq
  · exact h
  · exact h' q hq
theorem no_test {σ : Nat → Int} : ∀ t ∈ ([] : List Test), TestOk σ t := fun q hq => by cases hq

theorem wrap_i64 (n : Int) (h : -9223372036854775808 ≤ n ∧ n < 9223372036854775808) : IntKind.i64.wrap n = n := by
  simp only [IntKind.wrap, IntKind.signed, IntKind.bits]
  simp
  omega
theorem wrap_i64w (t : Int) (h : 0 ≤ t ∧ t < 18446744073709551616) : IntKind.i64.wrap t = if t < 9223372036854775808 then t else t - 18446744073709551616 := by
  simp only [IntKind.wrap, IntKind.signed, IntKind.bits]
  simp
  split <;> omega
theorem f_cmp47 (a b : Int) (ha : -9223372036854775808 ≤ a ∧ a < 9223372036854775808) (hb : -9223372036854775808 ≤ b ∧ b < 9223372036854775808) : Gives Tryz.prog 71 [.int .i64 a, .int .i64 b] (.int .i64 (cmpI a b)) := by
  have ea : (Exp.inp .i64 0).eval (sigA a b) = a := wrap_i64 a ha
  have eb : (Exp.inp .i64 1).eval (sigA a b) = b := wrap_i64 b hb
  have key : ∀ (lt gt : Bool) (r : Int), decide (a < b) = lt → decide (a > b) = gt → (lt = true → r = -1) → (lt = false → gt = true → r = 1) → (lt = false → gt = false → r = 0) → Gives Tryz.prog 71 [.int .i64 a, .int .i64 b] (.int .i64 r) := by
    intro lt gt r h1 h2 h3 h4 h5
    have ht : ∀ t ∈ [(⟨.neq, .inp .i64 0, .inp .i64 0, false⟩ : Test), ⟨.neq, .inp .i64 1, .inp .i64 1, false⟩, ⟨.lss, .inp .i64 0, .inp .i64 1, lt⟩, ⟨.gtr, .inp .i64 0, .inp .i64 1, gt⟩], TestOk (sigA a b) t := by
      intro t ht k
      simp only [List.mem_cons, List.not_mem_nil, or_false] at ht
      rcases ht with rfl | rfl | rfl | rfl <;> simp only [intBin, ea, eb, h1, h2] <;> simp
    have h6 : r = if lt then -1 else if gt then 1 else 0 := by
      cases lt <;> cases gt <;> simp_all
    have := run_gives (sigA a b) [] _ (fun r h => (by cases h)) ht ⟨71, [e1 .i64 0, e1 .i64 1], .s (i1 (if lt then -1 else if gt then 1 else 0))⟩ 100 (fun σ => by cases lt <;> cases gt <;> kernel_rfl)
    simp only [List.map_cons, List.map_nil, val1, valC, e1, i1, valV, ea, eb] at this
    rw [h6]; exact this
  refine key _ _ _ rfl rfl (fun h => ?_) (fun h h' => ?_) (fun h h' => ?_)
  · simp only [decide_eq_true_eq] at h; simp [cmpI, h]
  · simp only [decide_eq_true_eq, decide_eq_false_iff_not] at h h'; simp only [cmpI]; rw [if_neg h, if_pos h']
  · simp only [decide_eq_false_iff_not] at h h'; simp only [cmpI]; rw [if_neg h, if_neg h']

/-! ### Wide integers -/
def P512 : Int := 13407807929942597099574024998205846127479365820592393377723561443721764030073546976801874298166903427690031858186486050853753882811946569946433649006084096
def P511 : Int := 6703903964971298549787012499102923063739682910296196688861780721860882015036773488400937149083451713845015929093243025426876941405973284973216824503042048
def fit (x : Int) : Prop := -P511 ≤ x ∧ x < P511
instance (x : Int) : Decidable (fit x) := inferInstanceAs (Decidable (_ ∧ _))
/-- The number whose words a wide integer has. -/
def un (x : Int) : Nat := (x % P512).toNat
/-- A wide integer. -/
def W (x : Int) : Value := magV (un x)
theorem p512_nat : ((13407807929942597099574024998205846127479365820592393377723561443721764030073546976801874298166903427690031858186486050853753882811946569946433649006084096 : Nat) : Int) = P512 := by kernel_rfl
theorem un_pos {x : Int} (h : fit x) (h0 : 0 ≤ x) : (un x : Int) = x := by
  unfold un fit P511 P512 at *; omega
theorem un_neg {x : Int} (h : fit x) (h0 : x < 0) : (un x : Int) = x + P512 := by
  unfold un fit P511 P512 at *; omega
theorem un_lt (x : Int) : un x < 13407807929942597099574024998205846127479365820592393377723561443721764030073546976801874298166903427690031858186486050853753882811946569946433649006084096 := by
  have h := p512_nat
  unfold un P512 at *; omega
theorem p448_eq : 2 ^ (64 * 7) = 726838724295606890549323807888004534353641360687318060281490199180639288113397923326191050713763565560762521606266177933534601628614656 := by kernel_rfl
/-- The highest word with its sign. -/
def topw (n : Nat) : Int := if (dig n 7 : Int) < 9223372036854775808 then (dig n 7 : Int) else dig n 7 - 18446744073709551616
theorem topw_split {x : Int} (h : fit x) : ∃ r : Nat, r < 726838724295606890549323807888004534353641360687318060281490199180639288113397923326191050713763565560762521606266177933534601628614656 ∧ x = topw (un x) * ((726838724295606890549323807888004534353641360687318060281490199180639288113397923326191050713763565560762521606266177933534601628614656 : Nat) : Int) + r ∧ (un x : Int) = (dig (un x) 7 : Int) * ((726838724295606890549323807888004534353641360687318060281490199180639288113397923326191050713763565560762521606266177933534601628614656 : Nat) : Int) + r := by
  refine ⟨un x % 726838724295606890549323807888004534353641360687318060281490199180639288113397923326191050713763565560762521606266177933534601628614656, Nat.mod_lt _ (by decide), ?_, ?_⟩
  all_goals
    try unfold topw
    have hl := low_step (un x) 7
    rw [show 64 * (7 + 1) = 64 * 8 by decide, p2_eight, p448_eq, Nat.mod_eq_of_lt (un_lt x)] at hl
    have hr := Nat.mod_lt (un x) (show 0 < 726838724295606890549323807888004534353641360687318060281490199180639288113397923326191050713763565560762521606266177933534601628614656 by decide)
    have hd := dig_lt (un x) 7
    generalize dig (un x) 7 = d at *
    generalize un x % 726838724295606890549323807888004534353641360687318060281490199180639288113397923326191050713763565560762521606266177933534601628614656 = r at *
  · by_cases h0 : 0 ≤ x
    · have hu := un_pos h h0
      unfold fit P511 at h
      rw [if_pos (by omega)]; omega
    · have hu := un_neg h (by omega)
      unfold fit P511 P512 at *
      rw [if_neg (by omega)]; omega
  · omega
theorem cmpI_lex (B x y r s : Int) (hr : 0 ≤ r ∧ r < B) (hs : 0 ≤ s ∧ s < B) : cmpI (x * B + r) (y * B + s) = if cmpI x y = 0 then cmpI r s else cmpI x y := by
  have mono : ∀ p q : Int, p < q → p * B + B ≤ q * B := fun p q h => by
    have := Int.mul_le_mul_of_nonneg_right (show p + 1 ≤ q by omega) (show 0 ≤ B by omega)
    rw [Int.add_mul] at this; omega
  rcases Int.lt_trichotomy x y with h | h | h
  · have := mono x y h
    have e : cmpI x y = -1 := by unfold cmpI; rw [if_pos h]
    rw [e, if_neg (by decide)]
    unfold cmpI; rw [if_pos (by omega)]
  · subst h
    have e : cmpI x x = 0 := by unfold cmpI; rw [if_neg (by omega), if_neg (by omega)]
    rw [e, if_pos rfl]
    unfold cmpI
    by_cases c1 : r < s
    · rw [if_pos c1, if_pos (by omega)]
    · rw [if_neg c1, if_neg (by omega)]
      by_cases c2 : s < r
      · rw [if_pos c2, if_pos (by omega)]
      · rw [if_neg c2, if_neg (by omega)]
  · have := mono y x h
    have e : cmpI x y = 1 := by unfold cmpI; rw [if_neg (by omega), if_pos h]
    rw [e, if_neg (by decide)]
    unfold cmpI; rw [if_neg (by omega), if_pos (by omega)]
theorem cmp_wide {x y : Int} (hx : fit x) (hy : fit y) : cmpI x y = if cmpI (topw (un x)) (topw (un y)) = 0 then cmpI (un x) (un y) else cmpI (topw (un x)) (topw (un y)) := by
  obtain ⟨r, hr, e1, e2⟩ := topw_split hx
  obtain ⟨s, hs, e3, e4⟩ := topw_split hy
  have hr' : (0 : Int) ≤ r ∧ (r : Int) < ((726838724295606890549323807888004534353641360687318060281490199180639288113397923326191050713763565560762521606266177933534601628614656 : Nat) : Int) := ⟨by omega, by exact_mod_cast hr⟩
  have hs' : (0 : Int) ≤ s ∧ (s : Int) < ((726838724295606890549323807888004534353641360687318060281490199180639288113397923326191050713763565560762521606266177933534601628614656 : Nat) : Int) := ⟨by omega, by exact_mod_cast hs⟩
  have k1 := cmpI_lex _ (topw (un x)) (topw (un y)) r s hr' hs'
  have k2 := cmpI_lex _ (dig (un x) 7) (dig (un y) 7) r s hr' hs'
  rw [← e1, ← e3] at k1
  rw [← e2, ← e4] at k2
  rw [k1]
  split
  · rename_i hz
    rw [k2]
    have ht : topw (un x) = topw (un y) := by
      unfold cmpI at hz
      split at hz
      · omega
      · split at hz <;> omega
    have hd : (dig (un x) 7 : Int) = dig (un y) 7 := by
      have := dig_lt (un x) 7
      have := dig_lt (un y) 7
      unfold topw at ht
      split at ht <;> split at ht <;> omega
    rw [hd]
    have e : cmpI (dig (un y) 7) (dig (un y) 7) = 0 := by unfold cmpI; rw [if_neg (by omega), if_neg (by omega)]
    rw [if_pos e]
  · rfl

def topE (i : Nat) : V1 := .one (.ex .i64 (.wrap .i64 (.inp .u64 i)))
def tri (r : Int) : Prop := r = -1 ∨ r = 0 ∨ r = 1
theorem cmpI_tri (a b : Int) : tri (cmpI a b) := by have := cmpI_range a b; unfold tri; omega
theorem cmp17_run (σ : Nat → Int) (r q : Int) (h : tri r) (h' : tri q) : runs σ [⟨71, [topE 7, topE 15], .s (i1 r)⟩, ⟨72, [inN 0, inN 1], .s (i1 q)⟩] [] ⟨45, [inN 0, inN 1], .s (i1 (if r = 0 then q else r))⟩ 100 = true := by
  rcases h with rfl | rfl | rfl <;> rcases h' with rfl | rfl | rfl <;> kernel_rfl
theorem top_val (f : Nat → Nat) (k : Nat) : val1 (sigN f) (topE (8 * k + 7)) = .int .i64 (topw (f k)) := by
  have h := inp_sigN f k 7 (by decide)
  have hd := dig_lt (f k) 7
  simp only [topE, val1, valC]
  simp only [Exp.eval] at h ⊢
  rw [h, wrap_i64w _ ⟨by omega, by omega⟩]
  rfl
theorem topw_range (n : Nat) : -9223372036854775808 ≤ topw n ∧ topw n < 9223372036854775808 := by
  have := dig_lt n 7
  unfold topw; split <;> omega
def two2 (m n : Nat) (i : Nat) : Nat := if i = 0 then m else n
/-- Cmp. -/
theorem f_Cmp (x y : Int) (hx : fit x) (hy : fit y) : Gives Tryz.prog 45 [W x, W y] (.int .i64 (cmpI x y)) := by
  have r1 : RowGives Tryz.prog (sigN (two2 (un x) (un y))) ⟨71, [topE 7, topE 15], .s (i1 (cmpI (topw (un x)) (topw (un y))))⟩ := by
    refine ⟨rfl, ?_⟩
    have hf := f_cmp47 _ _ (topw_range (un x)) (topw_range (un y))
    have e0 := top_val (two2 (un x) (un y)) 0
    have e1 := top_val (two2 (un x) (un y)) 1
    simp only [List.map_cons, List.map_nil]
    rw [show topE 7 = topE (8 * 0 + 7) from rfl, show topE 15 = topE (8 * 1 + 7) from rfl, e0, e1]
    exact hf
  have r2 : RowGives Tryz.prog (sigN (two2 (un x) (un y))) ⟨72, [inN 0, inN 1], .s (i1 (cmpI (un x) (un y)))⟩ := by
    refine ⟨rfl, ?_⟩
    simp only [List.map_cons, List.map_nil, val_inN]
    exact f_compare _ _ (un_lt x) (un_lt y)
  have := run_gives _ _ [] (more_row r1 (one_row r2)) no_test ⟨45, [inN 0, inN 1], _⟩ 100 (fun σ => cmp17_run σ _ _ (cmpI_tri _ _) (cmpI_tri _ _))
  simp only [List.map_cons, List.map_nil, val_inN] at this
  rw [cmp_wide hx hy]
  exact this
end Go.Proofs.YtfeapgpjchjphaaGreat
namespace Go.Proofs.YtfeapgpjchjphaaGreat
open Go Go.Rx Go.RowKit

theorem fit_zero : fit 0 := by unfold fit P511; omega
/-- Zero as cells. -/
def z8 : V1 := mag 0
theorem val_z8 (σ : Nat → Int) : val1 σ z8 = magV 0 := by kernel_rfl
theorem W_zero : W 0 = magV 0 := rfl
/-- The lowest wide integer's magnitude as cells. -/
def h8 : V1 := mag (6703903964971298549787012499102923063739682910296196688861780721860882015036773488400937149083451713845015929093243025426876941405973284973216824503042048)
theorem val_h8 (σ : Nat → Int) : val1 σ h8 = magV (6703903964971298549787012499102923063739682910296196688861780721860882015036773488400937149083451713845015929093243025426876941405973284973216824503042048) := by kernel_rfl

/-- An integer with its sign apart. -/
def sgV (n : Nat) (b : Bool) : Value := .agg #[.int .u64 (dig n 0), .int .u64 (dig n 1), .int .u64 (dig n 2), .int .u64 (dig n 3), .int .u64 (dig n 4), .int .u64 (dig n 5), .int .u64 (dig n 6), .int .u64 (dig n 7), .bool b]
def sgN (k : Nat) (b : Bool) : V1 := .agg [.ex .u64 (.inp .u64 (8 * k + 0)), .ex .u64 (.inp .u64 (8 * k + 1)), .ex .u64 (.inp .u64 (8 * k + 2)), .ex .u64 (.inp .u64 (8 * k + 3)), .ex .u64 (.inp .u64 (8 * k + 4)), .ex .u64 (.inp .u64 (8 * k + 5)), .ex .u64 (.inp .u64 (8 * k + 6)), .ex .u64 (.inp .u64 (8 * k + 7)), .v (.bool b)]
theorem val_sgN (f : Nat → Nat) (k : Nat) (b : Bool) : val1 (sigN f) (sgN k b) = sgV (f k) b := by
  simp only [sgN, val1, valC, sgV, List.map_cons, List.map_nil, inp_sigN f k 0 (by decide), inp_sigN f k 1 (by decide), inp_sigN f k 2 (by decide), inp_sigN f k 3 (by decide), inp_sigN f k 4 (by decide), inp_sigN f k 5 (by decide), inp_sigN f k 6 (by decide), inp_sigN f k 7 (by decide)]

theorem sign_run (σ : Nat → Int) (r : Int) (h : tri r) : runs σ [⟨45, [inN 0, z8], .s (i1 r)⟩] [] ⟨37, [inN 0], .s (i1 r)⟩ 100 = true := by
  rcases h with rfl | rfl | rfl <;> kernel_rfl
/-- Sign. -/
theorem f_Sign (x : Int) (hx : fit x) : Gives Tryz.prog 37 [W x] (.int .i64 (cmpI x 0)) := by
  have r1 : RowGives Tryz.prog (sigN fun _ => un x) ⟨45, [inN 0, z8], .s (i1 (cmpI x 0))⟩ := by
    refine ⟨rfl, ?_⟩
    simp only [List.map_cons, List.map_nil, val_inN, val_z8]
    exact f_Cmp x 0 hx fit_zero
  have := run_gives _ _ [] (one_row r1) no_test ⟨37, [inN 0], _⟩ 100 (fun σ => sign_run σ _ (cmpI_tri _ _))
  simp only [List.map_cons, List.map_nil, val_inN] at this
  exact this

theorem signed_runN (σ : Nat → Int) : runs σ [⟨37, [inN 0], .s (i1 (-1))⟩, ⟨104, [z8, inN 0], .s (inN 1)⟩] [] ⟨94, [inN 0], .s (sgN 1 true)⟩ 100 = true := by kernel_rfl
theorem signed_runZ (σ : Nat → Int) : runs σ [⟨37, [inN 0], .s (i1 0)⟩] [] ⟨94, [inN 0], .s (sgN 0 false)⟩ 100 = true := by kernel_rfl
theorem signed_runP (σ : Nat → Int) : runs σ [⟨37, [inN 0], .s (i1 1)⟩] [] ⟨94, [inN 0], .s (sgN 0 false)⟩ 100 = true := by kernel_rfl
theorem diff_abs {x : Int} (h : fit x) (h0 : x < 0) : 0 + 13407807929942597099574024998205846127479365820592393377723561443721764030073546976801874298166903427690031858186486050853753882811946569946433649006084096 - un x = x.natAbs := by
  have h1 := un_neg h h0
  have h2 := p512_nat
  unfold fit P511 P512 at *; omega
theorem un_abs {x : Int} (h : fit x) (h0 : 0 ≤ x) : un x = x.natAbs := by
  have := un_pos h h0; omega
/-- signedOf. -/
theorem f_signedOf (x : Int) (hx : fit x) : Gives Tryz.prog 94 [W x] (sgV x.natAbs (decide (x < 0))) := by
  have r1 : ∀ g r, cmpI x 0 = r → g 0 = un x → RowGives Tryz.prog (sigN g) ⟨37, [inN 0], .s (i1 r)⟩ := fun g r h hg => by
    refine ⟨rfl, ?_⟩
    simp only [List.map_cons, List.map_nil, val_inN, hg]
    rw [← h]
    exact f_Sign x hx
  by_cases h0 : x < 0
  · have hc : cmpI x 0 = -1 := by unfold cmpI; rw [if_pos h0]
    have r2 : RowGives Tryz.prog (sigN (two2 (un x) x.natAbs)) ⟨104, [z8, inN 0], .s (inN 1)⟩ := by
      refine ⟨rfl, ?_⟩
      simp only [List.map_cons, List.map_nil, val_inN, val_z8, valV]
      have := f_diff 0 (un x) (un_lt x)
      rw [diff_abs hx h0] at this
      exact this
    have := run_gives _ _ [] (more_row (r1 _ _ hc rfl) (one_row r2)) no_test ⟨94, [inN 0], _⟩ 100 signed_runN
    simp only [List.map_cons, List.map_nil, val_inN, valV, val_sgN] at this
    rw [decide_eq_true h0]
    exact this
  · have hu := un_abs hx (by omega)
    rw [decide_eq_false h0, ← hu]
    by_cases h1 : x = 0
    · have hc : cmpI x 0 = 0 := by unfold cmpI; rw [if_neg h0, if_neg (by omega)]
      have := run_gives (sigN fun _ => un x) _ [] (one_row (r1 _ _ hc rfl)) no_test ⟨94, [inN 0], _⟩ 100 signed_runZ
      simp only [List.map_cons, List.map_nil, val_inN, valV, val_sgN] at this
      exact this
    · have hc : cmpI x 0 = 1 := by unfold cmpI; rw [if_neg h0, if_pos (by omega)]
      have := run_gives (sigN fun _ => un x) _ [] (one_row (r1 _ _ hc rfl)) no_test ⟨94, [inN 0], _⟩ 100 signed_runP
      simp only [List.map_cons, List.map_nil, val_inN, valV, val_sgN] at this
      exact this

/-! ### Back -/
/-- The integer that has a size and a sign. -/
def sg (n : Nat) (b : Bool) : Int := if b then -(n : Int) else n
def outV (x : Int) : Value := .tuple #[W x, .int .i64 0]
def bigV : Value := .tuple #[W 0, .int .i64 6]
theorem wide_bad (σ : Nat → Int) (b f : Bool) (r : Int) (h : tri r) (hb : (f = false) ∨ r = 1 ∨ (r = 0 ∧ b = false)) : runs σ [⟨72, [inN 0, h8], .s (i1 r)⟩] [] ⟨93, [sgN 0 b, b1 f], .tup [z8, i1 6]⟩ 100 = true := by
  rcases h with rfl | rfl | rfl <;> cases b <;> cases f <;> simp at hb <;> kernel_rfl
theorem wide_neg (σ : Nat → Int) (r : Int) (h : r = -1 ∨ r = 0) : runs σ [⟨72, [inN 0, h8], .s (i1 r)⟩, ⟨104, [z8, inN 0], .s (inN 1)⟩] [] ⟨93, [sgN 0 true, b1 true], .tup [inN 1, i1 0]⟩ 100 = true := by
  rcases h with rfl | rfl <;> kernel_rfl
theorem wide_pos (σ : Nat → Int) : runs σ [⟨72, [inN 0, h8], .s (i1 (-1))⟩] [] ⟨93, [sgN 0 false, b1 true], .tup [inN 0, i1 0]⟩ 100 = true := by kernel_rfl
theorem p511_nat : ((6703903964971298549787012499102923063739682910296196688861780721860882015036773488400937149083451713845015929093243025426876941405973284973216824503042048 : Nat) : Int) = P511 := by kernel_rfl
theorem magV_congr {m n : Nat} (h : m % 13407807929942597099574024998205846127479365820592393377723561443721764030073546976801874298166903427690031858186486050853753882811946569946433649006084096 = n % 13407807929942597099574024998205846127479365820592393377723561443721764030073546976801874298166903427690031858186486050853753882811946569946433649006084096) : magV m = magV n := by rw [← magV_mod m, ← magV_mod n, h]
theorem W_pos {n : Nat} (h : n < 6703903964971298549787012499102923063739682910296196688861780721860882015036773488400937149083451713845015929093243025426876941405973284973216824503042048) : W n = magV n := by
  have h1 := p511_nat
  have hf : fit n := by unfold fit; unfold P511 at *; omega
  have := un_pos hf (by omega)
  unfold W
  rw [show un n = n by omega]
theorem W_neg {n : Nat} (h : n ≤ 6703903964971298549787012499102923063739682910296196688861780721860882015036773488400937149083451713845015929093243025426876941405973284973216824503042048) : W (-(n : Int)) = magV (0 + 13407807929942597099574024998205846127479365820592393377723561443721764030073546976801874298166903427690031858186486050853753882811946569946433649006084096 - n) := by
  have h1 := p511_nat
  have h2 := p512_nat
  have hf : fit (-(n : Int)) := by unfold fit; unfold P511 at *; omega
  by_cases h0 : n = 0
  · subst h0; exact magV_congr (m := un 0) (by decide)
  · have := un_neg hf (by omega)
    unfold W
    congr 1
    unfold P512 at *
    omega
/-- wideOf. -/
theorem f_wideOf (n : Nat) (b f : Bool) (hn : n < 13407807929942597099574024998205846127479365820592393377723561443721764030073546976801874298166903427690031858186486050853753882811946569946433649006084096) : Gives Tryz.prog 93 [sgV n b, .bool f] (if f = true ∧ fit (sg n b) then outV (sg n b) else bigV) := by
  have hp := p511_nat
  have r1 : ∀ g r, cmpI n ((6703903964971298549787012499102923063739682910296196688861780721860882015036773488400937149083451713845015929093243025426876941405973284973216824503042048 : Nat) : Int) = r → g 0 = n → RowGives Tryz.prog (sigN g) ⟨72, [inN 0, h8], .s (i1 r)⟩ := fun g r h hg => by
    refine ⟨rfl, ?_⟩
    simp only [List.map_cons, List.map_nil, val_inN, val_h8, hg]
    rw [← h]
    exact f_compare n (6703903964971298549787012499102923063739682910296196688861780721860882015036773488400937149083451713845015929093243025426876941405973284973216824503042048) hn (by decide)
  have bad : ∀ r, cmpI n ((6703903964971298549787012499102923063739682910296196688861780721860882015036773488400937149083451713845015929093243025426876941405973284973216824503042048 : Nat) : Int) = r → ((f = false) ∨ r = 1 ∨ (r = 0 ∧ b = false)) → Gives Tryz.prog 93 [sgV n b, .bool f] bigV := fun r hr hb => by
    have := run_gives (sigN fun _ => n) _ [] (one_row (r1 _ _ hr rfl)) no_test ⟨93, [sgN 0 b, b1 f], _⟩ 100 (fun σ => wide_bad σ b f r (by rw [← hr]; exact cmpI_tri _ _) hb)
    simp only [List.map_cons, List.map_nil, val_sgN, valV, val_b1, val_z8] at this
    exact this
  by_cases hf : f = true ∧ fit (sg n b)
  · rw [if_pos hf]
    obtain ⟨rfl, hf⟩ := hf
    cases b with
    | true =>
      simp only [sg, if_true] at hf ⊢
      have hle : n ≤ 6703903964971298549787012499102923063739682910296196688861780721860882015036773488400937149083451713845015929093243025426876941405973284973216824503042048 := by unfold fit at hf; unfold P511 at *; omega
      have hr : cmpI n ((6703903964971298549787012499102923063739682910296196688861780721860882015036773488400937149083451713845015929093243025426876941405973284973216824503042048 : Nat) : Int) = -1 ∨ cmpI n ((6703903964971298549787012499102923063739682910296196688861780721860882015036773488400937149083451713845015929093243025426876941405973284973216824503042048 : Nat) : Int) = 0 := by
        unfold cmpI
        by_cases hlt : n < 6703903964971298549787012499102923063739682910296196688861780721860882015036773488400937149083451713845015929093243025426876941405973284973216824503042048
        · left; rw [if_pos (by omega)]
        · right; rw [if_neg (by omega), if_neg (by omega)]
      have r2 : RowGives Tryz.prog (sigN (two2 n (0 + 13407807929942597099574024998205846127479365820592393377723561443721764030073546976801874298166903427690031858186486050853753882811946569946433649006084096 - n))) ⟨104, [z8, inN 0], .s (inN 1)⟩ := by
        refine ⟨rfl, ?_⟩
        simp only [List.map_cons, List.map_nil, val_inN, val_z8, valV]
        exact f_diff 0 n hn
      have := run_gives _ _ [] (more_row (r1 _ _ rfl rfl) (one_row r2)) no_test ⟨93, [sgN 0 true, b1 true], _⟩ 100 (fun σ => wide_neg σ _ hr)
      simp only [List.map_cons, List.map_nil, val_sgN, valV, val_b1, val_inN, val_i1] at this
      unfold outV
      rw [W_neg hle]
      exact this
    | false =>
      simp only [sg] at hf ⊢
      have hlt : n < 6703903964971298549787012499102923063739682910296196688861780721860882015036773488400937149083451713845015929093243025426876941405973284973216824503042048 := by simp only [Bool.false_eq_true, if_false] at hf; unfold fit at hf; unfold P511 at *; omega
      have hr : cmpI n ((6703903964971298549787012499102923063739682910296196688861780721860882015036773488400937149083451713845015929093243025426876941405973284973216824503042048 : Nat) : Int) = -1 := by unfold cmpI; rw [if_pos (by omega)]
      have := run_gives (sigN fun _ => n) _ [] (one_row (r1 _ _ hr rfl)) no_test ⟨93, [sgN 0 false, b1 true], _⟩ 100 wide_pos
      simp only [List.map_cons, List.map_nil, val_sgN, valV, val_b1, val_inN, val_i1] at this
      unfold outV
      simp only [Bool.false_eq_true, if_false]
      rw [W_pos hlt]
      exact this
  · rw [if_neg hf]
    refine bad _ rfl ?_
    cases f with
    | false => exact .inl rfl
    | true =>
      right
      have hf' : ¬ fit (sg n b) := fun h => hf ⟨rfl, h⟩
      unfold cmpI
      cases b with
      | true =>
        simp only [sg, if_true] at hf'
        left
        rw [if_neg (by unfold fit at hf'; unfold P511 at *; omega), if_pos (by unfold fit at hf'; unfold P511 at *; omega)]
      | false =>
        simp only [sg, Bool.false_eq_true, if_false] at hf'
        have : ¬ ((n : Int) < ((6703903964971298549787012499102923063739682910296196688861780721860882015036773488400937149083451713845015929093243025426876941405973284973216824503042048 : Nat) : Int)) := by unfold fit at hf'; unfold P511 at *; omega
        rw [if_neg this]
        by_cases h2 : ((6703903964971298549787012499102923063739682910296196688861780721860882015036773488400937149083451713845015929093243025426876941405973284973216824503042048 : Nat) : Int) < n
        · left; rw [if_pos h2]
        · right; rw [if_neg h2]; exact ⟨rfl, rfl⟩
end Go.Proofs.YtfeapgpjchjphaaGreat
