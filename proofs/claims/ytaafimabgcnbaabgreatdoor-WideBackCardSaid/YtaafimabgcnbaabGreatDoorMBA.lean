/-
  The closures of the laws: is, says.
-/
import Derived.Test.YtaafimabgcnbaabGreatDoorMR
import Derived.Test.YtaafimabgcnbaabGreatDoorMLFb
import Derived.Test.YtaafimabgcnbaabGreatDoorMT3
set_option linter.all false
namespace Go.Proofs.YtaafimabgcnbaabGreatDoor
open Go Go.Rx Go.RowKit Go.Big
attribute [local instance] noAv
set_option maxHeartbeats 1600000 in
set_option maxRecDepth 100000 in
theorem is_c {U : World} (a0 a1 a2 a3 a4 a5 a6 a7 : Int) : Calls Tryz.prog 5 #[.agg #[.int .u64 a0, .int .u64 a1, .int .u64 a2, .int .u64 a3, .int .u64 a4, .int .u64 a5, .int .u64 a6, .int .u64 a7]] U
    (Gets (fun W' r => ∃ B, r = .func (.func 28) #[] #[.pointer (some ⟨B, 0, none⟩)] ∧ W'.heap[B]? = some (.cells #[.int .u64 a0, .int .u64 a1, .int .u64 a2, .int .u64 a3, .int .u64 a4, .int .u64 a5, .int .u64 a6, .int .u64 a7] 24)) U) := by
  have k := (MapKept.heap_alloc U (.cells #[.int .u64 a0, .int .u64 a1, .int .u64 a2, .int .u64 a3, .int .u64 a4, .int .u64 a5, .int .u64 a6, .int .u64 a7] 24)).1
  have b := below_al (Below.refl U.heap.size U) (.cells #[.int .u64 a0, .int .u64 a1, .int .u64 a2, .int .u64 a3, .int .u64 a4, .int .u64 a5, .int .u64 a6, .int .u64 a7] 24)
  go_enter Tryz.func5, Tryz.ntmps5
  go_wp2
  go_ret
  exact ⟨_, rfl, ⟨U.heap.size, rfl, k⟩, b⟩
set_option maxHeartbeats 1600000 in
set_option maxRecDepth 100000 in
theorem is1_c {U : World} {B : Nat} {a0 a1 a2 a3 a4 a5 a6 a7 : Int} (k : U.heap[B]? = some (.cells #[.int .u64 a0, .int .u64 a1, .int .u64 a2, .int .u64 a3, .int .u64 a4, .int .u64 a5, .int .u64 a6, .int .u64 a7] 24)) :
    Calls Tryz.prog 28 #[.agg #[.int .u64 a0, .int .u64 a1, .int .u64 a2, .int .u64 a3, .int .u64 a4, .int .u64 a5, .int .u64 a6, .int .u64 a7], .int .i64 0, .pointer (some ⟨B, 0, none⟩)] U (Gets (fun _ r => r = .bool true) U) := by
  have hE := eq8_same a0 a1 a2 a3 a4 a5 a6 a7
  have ku := (MapKept.heap_alloc U (.cells #[.int .u64 a0, .int .u64 a1, .int .u64 a2, .int .u64 a3, .int .u64 a4, .int .u64 a5, .int .u64 a6, .int .u64 a7] 24)).1
  have b := below_al (Below.refl U.heap.size U) (.cells #[.int .u64 a0, .int .u64 a1, .int .u64 a2, .int .u64 a3, .int .u64 a4, .int .u64 a5, .int .u64 a6, .int .u64 a7] 24)
  have kb := ((((Below.refl _ _).alloc (Nat.le_refl _) (.cells #[.int .u64 a0, .int .u64 a1, .int .u64 a2, .int .u64 a3, .int .u64 a4, .int .u64 a5, .int .u64 a6, .int .u64 a7] 24) : Below U.heap.size U _)).block B (Array.getElem?_eq_some_iff.1 k).1).trans k
  obtain ⟨⟨g0, g1, g2, g3, g4, g5, g6, g7⟩, -⟩ := cells8 ku
  obtain ⟨⟨i0, i1, i2, i3, i4, i5, i6, i7⟩, -⟩ := cells8 kb
  clear ku kb k
  go_enter Tryz.func28, Tryz.ntmps28
  go_wp2
  go_ret
  exact ⟨_, rfl, rfl, b⟩
set_option maxHeartbeats 1600000 in
set_option maxRecDepth 100000 in
theorem says_c {U : World} (n : Int) : Calls Tryz.prog 13 #[.int .i64 n] U (Gets (fun W' r => ∃ B, r = .func (.func 44) #[] #[.pointer (some ⟨B, 0, none⟩)] ∧ W'.cell? ⟨B, 0, none⟩ = some (.int .i64 n) ∧ B < W'.heap.size) U) := by
  have k := (MapKept.heap_alloc U (.cells #[.int .i64 n] 3)).1
  have b := below_al (Below.refl U.heap.size U) (.cells #[.int .i64 n] 3)
  have hlt := (Array.getElem?_eq_some_iff.1 k).1
  have c := (cellOf (j := 0) k).trans rfl
  go_enter Tryz.func13, Tryz.ntmps13
  go_wp2
  go_ret
  exact ⟨_, rfl, ⟨U.heap.size, rfl, c, hlt⟩, b⟩
set_option maxHeartbeats 1600000 in
set_option maxRecDepth 100000 in
theorem says1_c {U : World} {B : Nat} {n : Int} (k : U.cell? ⟨B, 0, none⟩ = some (.int .i64 n)) : Calls Tryz.prog 44 #[.int .i64 n, .int .i64 0, .pointer (some ⟨B, 0, none⟩)] U (Gets (fun _ r => r = .bool true) U) := by
  go_enter Tryz.func44, Tryz.ntmps44
  go_wp2
  go_ret
  exact ⟨_, rfl, rfl, Below.refl _ _⟩
end Go.Proofs.YtaafimabgcnbaabGreatDoor
