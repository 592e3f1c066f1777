/-
  Contracts of the reference: Integer, in range.
  Contracts of the reference: Int, Small.
-/
import Derived.Test.YtaafimabgcnbaaaGreatDoorMO
set_option linter.all false
namespace Go.Proofs.YtaafimabgcnbaaaGreatDoor
open Go Go.RowKit Go.Big
attribute [local instance] noAv
theorem nonneg_test {p : Int} (h : ¬ p < 0) : decide (p < 0) = false := by simpa using h
theorem nonpos_test {p : Int} (h : ¬ 0 < p) : decide (0 < p) = false := by simpa using h
theorem ord_low {z c : Int} (h : c ≤ z) : ∃ p, ordI z c = p ∧ decide (p < 0) = false := ⟨_, rfl, nonneg_test (by unfold ordI; rw [if_neg (by omega)]; split <;> omega)⟩
theorem ord_high {z c : Int} (h : z ≤ c) : ∃ p, ordI z c = p ∧ decide (0 < p) = false := ⟨_, rfl, nonpos_test (by unfold ordI; split <;> (try split) <;> omega)⟩
theorem wrap_neg {x : Int} (h0 : 0 ≤ x) (h1 : x ≤ 9223372036854775808) : wrap64 (IntKind.u64.wrap (-x)) = - x := by
  rw [IntKind.wrap_u64]; unfold wrap64; omega
theorem pw2 : pw 2 = 18446744073709551616 := by decide
end Go.Proofs.YtaafimabgcnbaaaGreatDoor
namespace Go.Proofs.YtaafimabgcnbaaaGreatDoor
open Go Go.RowKit Go.Big
attribute [local instance] noAv
/-- What a draft holds. -/
def smallN (b : Bool) (l : Int) : Int := sgz b (l % 1000001)
set_option maxHeartbeats 400000 in
set_option maxRecDepth 100000 in
theorem refSmall_c {w : World} (b : Bool) (s : Value) (l : Int) (l0 : 0 ≤ l) (l1 : l < 4294967296) : Calls Tryz.prog 28 #[.agg #[.bool b, s, .int .u32 l]] w (Gets (fun _ r => r = .int .i64 (smallN b l)) w) := by
  cases b with
  | false =>
    have hr : smallN false l = l % 1000001 := rfl
    rw [hr]
    go_enter Tryz.func28, Tryz.ntmps28
    go_wp2
    go_ret
    exact ⟨_, rfl, rfl, (Below.refl _ _).alloc (Nat.le_refl _) _⟩
  | true =>
    have hr : smallN true l = - (l % 1000001) := rfl
    rw [hr]
    go_enter Tryz.func28, Tryz.ntmps28
    go_wp2
    go_ret
    exact ⟨_, rfl, rfl, (Below.refl _ _).alloc (Nat.le_refl _) _⟩
end Go.Proofs.YtaafimabgcnbaaaGreatDoor
