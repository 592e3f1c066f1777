/-
  The law WideTells: the list over which it ranges.
-/
import Derived.Test.YtaafimabgcnbaabGreatDoorMLFa
set_option linter.all false
namespace Go.Proofs.YtaafimabgcnbaabGreatDoor
open Go Go.Rx Go.RowKit Go.Big
attribute [local instance] noAv
theorem own_low {w : World} {base base' size n : Nat} {e : TypeId} {v : Value} {xs : List Value} (h : w.ownsRow base e size v n xs) (hb : base' ≤ base) : w.ownsRow base' e size v n xs :=
  ⟨h.1, h.2.imp id fun ⟨g, cap, cur, h1, h2, h3⟩ => ⟨g, cap, cur, h1, Nat.le_trans hb h2, h3⟩⟩
theorem all2_v {ρ : Loc'} : ∀ (l : List Int), All2 (DC ρ) (l.map fun a => C.v (.int .u64 a)) (l.map fun a => Value.int .u64 a)
  | [] => .nil
  | _ :: l => .cons (.v rfl) (all2_v l)
/-- Eight words are equal to themselves. -/
theorem eq8_same (z0 z1 z2 z3 z4 z5 z6 z7 : Int) (w : World) : (Op.equalIn 10000 24 (.agg #[Value.int .u64 z0, Value.int .u64 z1, Value.int .u64 z2, Value.int .u64 z3, Value.int .u64 z4, Value.int .u64 z5, Value.int .u64 z6, Value.int .u64 z7]) (.agg #[Value.int .u64 z0, Value.int .u64 z1, Value.int .u64 z2, Value.int .u64 z3, Value.int .u64 z4, Value.int .u64 z5, Value.int .u64 z6, Value.int .u64 z7])).run Tryz.prog w = .ok true w := by
  have h : aggEq Tryz.prog 24 ([z0, z1, z2, z3, z4, z5, z6, z7].map fun a => C.v (.int .u64 a)) ([z0, z1, z2, z3, z4, z5, z6, z7].map fun a => C.v (.int .u64 a)) = some ((z0 == z0) && ((z1 == z1) && ((z2 == z2) && ((z3 == z3) && ((z4 == z4) && ((z5 == z5) && ((z6 == z6) && ((z7 == z7) && true)))))))) := by kernel_rfl
  rw [show ((z0 == z0) && ((z1 == z1) && ((z2 == z2) && ((z3 == z3) && ((z4 == z4) && ((z5 == z5) && ((z6 == z6) && ((z7 == z7) && true)))))))) = true by simp] at h
  exact (aggEq_sound (ρ := noLoc (lets0 fun _ => 0)) h (all2_v _) (all2_v _) w).1
theorem one16 {z0 z1 z2 z3 z4 z5 z6 z7 z8 z9 z10 z11 z12 z13 z14 z15 : Int} : ∀ u ∈ [Value.int .u64 z0, Value.int .u64 z1, Value.int .u64 z2, Value.int .u64 z3, Value.int .u64 z4, Value.int .u64 z5, Value.int .u64 z6, Value.int .u64 z7, Value.int .u64 z8, Value.int .u64 z9, Value.int .u64 z10, Value.int .u64 z11, Value.int .u64 z12, Value.int .u64 z13, Value.int .u64 z14, Value.int .u64 z15], u.oneCell' = true := by
  intro u hu
  simp only [List.mem_cons, List.not_mem_nil, or_false] at hu
  rcases hu with rfl | rfl | rfl | rfl | rfl | rfl | rfl | rfl | rfl | rfl | rfl | rfl | rfl | rfl | rfl | rfl <;> rfl
end Go.Proofs.YtaafimabgcnbaabGreatDoor
