/-
  THE RUNNER at this program: what it takes for known of the library, and that it is so.
-/
import Derived.Test.YtjjibclfmknblabGreatMRM
import Derived.Test.YtjjibclfmknblabGreatRows
import Derived.Shelf.Spec.BitsCarry
set_option linter.all false
namespace Go.Proofs.YtjjibclfmknblabGreat.Y
open Go Go.Ry Go.RowKit

def add64X (x y c : Int) : Option V :=
  if 0 ≤ x ∧ 0 ≤ y ∧ 0 ≤ c ∧ c ≤ 1 then some (.tup [.one (.v (.int .u64 ((x + y + c) % 18446744073709551616))), .one (.v (.int .u64 ((x + y + c) / 18446744073709551616)))]) else none
def sub64X (x y b : Int) : Option V :=
  if 0 ≤ x ∧ 0 ≤ y ∧ y < 18446744073709551616 ∧ 0 ≤ b ∧ b ≤ 1 then some (.tup [.one (.v (.int .u64 ((x - y - b) % 18446744073709551616))), .one (.v (.int .u64 (if x < y + b then 1 else 0)))]) else none
def extX (f : FuncId) (l : List V1) : Option V :=
  match l with
  | [.one (.v (.int .u64 x)), .one (.v (.int .u64 y)), .one (.v (.int .u64 c))] => bif Nat.beq f 125 then add64X x y c else bif Nat.beq f 91 then sub64X x y c else none
  | _ => none

theorem run_add (x y c : Int) (hx : 0 ≤ x) (hy : 0 ≤ y) (hc0 : 0 ≤ c) (hc : c ≤ 1) (w : World) : (callFunc 125 #[.int .u64 x, .int .u64 y, .int .u64 c]).run Tryz.prog w =
    .ok (.value (.tuple #[.int .u64 ((x + y + c) % 18446744073709551616), .int .u64 ((x + y + c) / 18446744073709551616)])) w := by
  obtain ⟨x, rfl⟩ := Int.eq_ofNat_of_zero_le hx
  obtain ⟨y, rfl⟩ := Int.eq_ofNat_of_zero_le hy
  obtain ⟨c, rfl⟩ := Int.eq_ofNat_of_zero_le hc0
  rw [run_callFunc_extern Tryz.func125 (by kernel_rfl) (by kernel_rfl) (by kernel_rfl) (e := add64Entry) (by kernel_rfl), run_add64 x y c (by omega) (by omega) (by omega) (by omega)]
  simp only [Result.andThen]
theorem run_sub (x y b : Int) (hx : 0 ≤ x) (hy : 0 ≤ y) (hy' : y < 18446744073709551616) (hb0 : 0 ≤ b) (hb : b ≤ 1) (w : World) : (callFunc 91 #[.int .u64 x, .int .u64 y, .int .u64 b]).run Tryz.prog w =
    .ok (.value (.tuple #[.int .u64 ((x - y - b) % 18446744073709551616), .int .u64 (if x < y + b then 1 else 0)])) w := by
  obtain ⟨x, rfl⟩ := Int.eq_ofNat_of_zero_le hx
  obtain ⟨y, rfl⟩ := Int.eq_ofNat_of_zero_le hy
  obtain ⟨b, rfl⟩ := Int.eq_ofNat_of_zero_le hb0
  rw [run_callFunc_extern Tryz.func91 (by kernel_rfl) (by kernel_rfl) (by kernel_rfl) (e := sub64Entry) (by kernel_rfl), run_sub64 x y b (by omega)]
  have e1 : (((x + 18446744073709551616 - y - b) % 18446744073709551616 : Nat) : Int) = ((x : Int) - y - b) % 18446744073709551616 := by omega
  have e2 : ((if x < y + b then 1 else 0 : Nat) : Int) = if (x : Int) < y + b then 1 else 0 := by split <;> split <;> omega
  rw [← e1, ← e2]
  rfl

theorem ext_ok (f : FuncId) (l : List V1) (v : V) (h : extX f l = some v) (ρ : Loc') (xs : List Value) (hx : All2 (D1 ρ) l xs) : ∃ x, DV ρ v x ∧ ∀ w, (callFunc f xs.toArray).run Tryz.prog w = .ok (.value x) w := by
  unfold extX at h
  split at h
  · rename_i x y c
    obtain ⟨x1, xs1, rfl, h1, hx⟩ := hx.cons_inv
    obtain ⟨x2, xs2, rfl, h2, hx⟩ := hx.cons_inv
    obtain ⟨x3, xs3, rfl, h3, hx⟩ := hx.cons_inv
    cases hx
    have := h1.one_inv.v_inv; subst this
    have := h2.one_inv.v_inv; subst this
    have := h3.one_inv.v_inv; subst this
    cases hb : Nat.beq f 125 with
    | true =>
      rw [hb] at h
      simp only [cond_true] at h
      have := beq_t hb; subst this
      unfold add64X at h
      split at h
      · rename_i hc
        simp only [Option.some.injEq] at h; subst h
        exact ⟨_, .tup (.cons (.one (.v rfl)) (.cons (.one (.v rfl)) .nil)), fun w => run_add x y c hc.1 hc.2.1 hc.2.2.1 hc.2.2.2 w⟩
      · cases h
    | false =>
      rw [hb] at h
      simp only [cond_false] at h
      cases hb' : Nat.beq f 91 with
      | true =>
        rw [hb'] at h
        simp only [cond_true] at h
        have := beq_t hb'; subst this
        unfold sub64X at h
        split at h
        · rename_i hc
          simp only [Option.some.injEq] at h; subst h
          exact ⟨_, .tup (.cons (.one (.v rfl)) (.cons (.one (.v rfl)) .nil)), fun w => run_sub x y c hc.1 hc.2.1 hc.2.2.1 hc.2.2.2.1 hc.2.2.2.2 w⟩
        · cases h
      | false => rw [hb'] at h; cases h
  · cases h

noncomputable def envOf (rs : List Row) : Env := ⟨Tryz.prog, extX, sumOf rs, lets0 fun _ => 0, fun _ _ _ => none, fun _ => none, fun _ _ _ => []⟩
theorem names_ok : (Tryz.prog.funcs.toList.all fun fn => !(fn.name == "runtime.NumGoroutine")) = true := by kernel_rfl
theorem env_ok {rs : List Row} (hr : ∀ r ∈ rs, Known Tryz.prog r.f r.l r.v) (W : Base) : EnvOk (envOf rs) W where
  mixed := by show Tryz.prog.follows .mixedOrders = true; kernel_rfl
  name := fun f fn hf => by
    have h1 := List.all_eq_true.1 names_ok fn (by
      have : Tryz.prog.funcs[f]? = some fn := hf
      exact Array.mem_toList_iff.2 (Array.mem_of_getElem? this))
    simpa using h1
  ext := fun f l v h ρ xs _ hx => ext_ok f l v h ρ xs hx
  sum := fun f l v h ρ xs w _ _ hx => sumOf_known hr h ρ xs w hx
  test := fun _ _ _ _ h => (by cases h)
theorem env0 (W : Base) : EnvOk (envOf []) W := env_ok (fun r h => (by cases h)) W
end Go.Proofs.YtjjibclfmknblabGreat.Y
