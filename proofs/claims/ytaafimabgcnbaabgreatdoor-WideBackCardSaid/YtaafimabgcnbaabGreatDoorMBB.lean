/-
  Two boxes of wide integers, whatever the order in which they are laid.
-/
import Derived.Test.YtaafimabgcnbaabGreatDoorMBA
import Derived.Deep.RegionHeld3
import Derived.Deep.CutRange
set_option linter.all false
namespace Go.Proofs.YtaafimabgcnbaabGreatDoor
open Go Go.Rx Go.RowKit Go.Big
attribute [local instance] noAv
theorem lt_of_heap {W : World} {z : Obj} {B : Nat} (h : W.heap[B]? = some z) : B < W.heap.size := (Array.getElem?_eq_some_iff.1 h).1
theorem lay1 {W w' : World} {z : Obj} (hb : Below (W.alloc z).heap.size (W.alloc z) w') : w'.heap[W.heap.size]? = some z :=
  (hb.block W.heap.size (by simp)).trans (MapKept.heap_alloc W z).1
theorem lay2 {W w' : World} {z z' : Obj} (hb : Below ((W.alloc z).alloc z').heap.size ((W.alloc z).alloc z') w') : w'.heap[W.heap.size]? = some z ∧ w'.heap[W.heap.size + 1]? = some z' :=
  ⟨(hb.block W.heap.size (by simp; omega)).trans (heap2 W z z').1, (hb.block (W.heap.size + 1) (by simp)).trans (heap2 W z z').2⟩
theorem lay1d {W w' : World} {z : Obj} (hb : Below ((W.alloc z).drew).heap.size ((W.alloc z).drew) w') : w'.heap[W.heap.size]? = some z := lay1 (W := W) (z := z) ⟨hb.os, hb.tape, hb.output, hb.size, hb.block⟩
theorem lay2d {W w' : World} {z z' : Obj} (hb : Below (((W.alloc z).alloc z').drew).heap.size (((W.alloc z).alloc z').drew) w') : w'.heap[W.heap.size]? = some z ∧ w'.heap[W.heap.size + 1]? = some z' := lay2 (W := W) (z := z) (z' := z') ⟨hb.os, hb.tape, hb.output, hb.size, hb.block⟩
section
variable {wb W : World} {x0 x1 x2 x3 x4 x5 x6 x7 y0 y1 y2 y3 y4 y5 y6 y7 : Int}
def TwoW (wb W : World) (x0 x1 x2 x3 x4 x5 x6 x7 y0 y1 y2 y3 y4 y5 y6 y7 : Int) (s15 s16 : Value) : Prop :=
  ∃ B C, s15 = .pointer (some ⟨B, 0, none⟩) ∧ s16 = .pointer (some ⟨C, 0, none⟩) ∧ W.heap[B]? = some (.cells #[.int .u64 x0, .int .u64 x1, .int .u64 x2, .int .u64 x3, .int .u64 x4, .int .u64 x5, .int .u64 x6, .int .u64 x7] 24) ∧ W.heap[C]? = some (.cells #[.int .u64 y0, .int .u64 y1, .int .u64 y2, .int .u64 y3, .int .u64 y4, .int .u64 y5, .int .u64 y6, .int .u64 y7] 24) ∧ Below wb.heap.size wb W
theorem tw_a (x : Below wb.heap.size wb W) : TwoW wb ((W.alloc (.cells #[.int .u64 x0, .int .u64 x1, .int .u64 x2, .int .u64 x3, .int .u64 x4, .int .u64 x5, .int .u64 x6, .int .u64 x7] 24)).alloc (.cells #[.int .u64 y0, .int .u64 y1, .int .u64 y2, .int .u64 y3, .int .u64 y4, .int .u64 y5, .int .u64 y6, .int .u64 y7] 24)) x0 x1 x2 x3 x4 x5 x6 x7 y0 y1 y2 y3 y4 y5 y6 y7 (.pointer (some ⟨W.heap.size, 0, none⟩)) (.pointer (some ⟨W.heap.size + 1, 0, none⟩)) := by
  obtain ⟨k8, k9⟩ := heap2 W (.cells #[.int .u64 x0, .int .u64 x1, .int .u64 x2, .int .u64 x3, .int .u64 x4, .int .u64 x5, .int .u64 x6, .int .u64 x7] 24) (.cells #[.int .u64 y0, .int .u64 y1, .int .u64 y2, .int .u64 y3, .int .u64 y4, .int .u64 y5, .int .u64 y6, .int .u64 y7] 24)
  exact ⟨_, _, rfl, rfl, k8, k9, below_al (below_al x _) _⟩
theorem tw_a' (x : Below wb.heap.size wb W) : TwoW wb ((W.alloc (.cells #[.int .u64 y0, .int .u64 y1, .int .u64 y2, .int .u64 y3, .int .u64 y4, .int .u64 y5, .int .u64 y6, .int .u64 y7] 24)).alloc (.cells #[.int .u64 x0, .int .u64 x1, .int .u64 x2, .int .u64 x3, .int .u64 x4, .int .u64 x5, .int .u64 x6, .int .u64 x7] 24)) x0 x1 x2 x3 x4 x5 x6 x7 y0 y1 y2 y3 y4 y5 y6 y7 (.pointer (some ⟨W.heap.size + 1, 0, none⟩)) (.pointer (some ⟨W.heap.size, 0, none⟩)) := by
  obtain ⟨k9, k8⟩ := heap2 W (.cells #[.int .u64 y0, .int .u64 y1, .int .u64 y2, .int .u64 y3, .int .u64 y4, .int .u64 y5, .int .u64 y6, .int .u64 y7] 24) (.cells #[.int .u64 x0, .int .u64 x1, .int .u64 x2, .int .u64 x3, .int .u64 x4, .int .u64 x5, .int .u64 x6, .int .u64 x7] 24)
  exact ⟨_, _, rfl, rfl, k8, k9, below_al (below_al x _) _⟩
theorem tw_b {B : Nat} (x : Below wb.heap.size wb W) (m : W.heap[B]? = some (.cells #[.int .u64 0, .int .u64 0, .int .u64 0, .int .u64 0, .int .u64 0, .int .u64 0, .int .u64 0, .int .u64 0] 24)) (hB : wb.heap.size ≤ B) : TwoW wb (((((((((W.setCell ⟨B, 0, none⟩ (.int .u64 x0)).setCell ⟨B, 1, none⟩ (.int .u64 x1)).setCell ⟨B, 2, none⟩ (.int .u64 x2)).setCell ⟨B, 3, none⟩ (.int .u64 x3)).setCell ⟨B, 4, none⟩ (.int .u64 x4)).setCell ⟨B, 5, none⟩ (.int .u64 x5)).setCell ⟨B, 6, none⟩ (.int .u64 x6)).setCell ⟨B, 7, none⟩ (.int .u64 x7)).alloc (.cells #[.int .u64 y0, .int .u64 y1, .int .u64 y2, .int .u64 y3, .int .u64 y4, .int .u64 y5, .int .u64 y6, .int .u64 y7] 24)) x0 x1 x2 x3 x4 x5 x6 x7 y0 y1 y2 y3 y4 y5 y6 y7 (.pointer (some ⟨B, 0, none⟩)) (.pointer (some ⟨W.heap.size, 0, none⟩)) := by
  have hs : ((((((((W.setCell ⟨B, 0, none⟩ (.int .u64 x0)).setCell ⟨B, 1, none⟩ (.int .u64 x1)).setCell ⟨B, 2, none⟩ (.int .u64 x2)).setCell ⟨B, 3, none⟩ (.int .u64 x3)).setCell ⟨B, 4, none⟩ (.int .u64 x4)).setCell ⟨B, 5, none⟩ (.int .u64 x5)).setCell ⟨B, 6, none⟩ (.int .u64 x6)).setCell ⟨B, 7, none⟩ (.int .u64 x7)).heap.size = W.heap.size := by simp
  have k8 := set8_heap m (.int .u64 x0) (.int .u64 x1) (.int .u64 x2) (.int .u64 x3) (.int .u64 x4) (.int .u64 x5) (.int .u64 x6) (.int .u64 x7)
  have X := below_set8 x hB (.int .u64 x0) (.int .u64 x1) (.int .u64 x2) (.int .u64 x3) (.int .u64 x4) (.int .u64 x5) (.int .u64 x6) (.int .u64 x7)
  generalize ((((((((W.setCell ⟨B, 0, none⟩ (.int .u64 x0)).setCell ⟨B, 1, none⟩ (.int .u64 x1)).setCell ⟨B, 2, none⟩ (.int .u64 x2)).setCell ⟨B, 3, none⟩ (.int .u64 x3)).setCell ⟨B, 4, none⟩ (.int .u64 x4)).setCell ⟨B, 5, none⟩ (.int .u64 x5)).setCell ⟨B, 6, none⟩ (.int .u64 x6)).setCell ⟨B, 7, none⟩ (.int .u64 x7)) = V at *
  rw [← hs]
  exact ⟨_, _, rfl, rfl, carry k8 (below_al (Below.refl _ _) _), (MapKept.heap_alloc V _).1, below_al X _⟩
theorem tw_b' {B : Nat} (x : Below wb.heap.size wb W) (m : W.heap[B]? = some (.cells #[.int .u64 0, .int .u64 0, .int .u64 0, .int .u64 0, .int .u64 0, .int .u64 0, .int .u64 0, .int .u64 0] 24)) (hB : wb.heap.size ≤ B) : TwoW wb (((((((((W.setCell ⟨B, 0, none⟩ (.int .u64 y0)).setCell ⟨B, 1, none⟩ (.int .u64 y1)).setCell ⟨B, 2, none⟩ (.int .u64 y2)).setCell ⟨B, 3, none⟩ (.int .u64 y3)).setCell ⟨B, 4, none⟩ (.int .u64 y4)).setCell ⟨B, 5, none⟩ (.int .u64 y5)).setCell ⟨B, 6, none⟩ (.int .u64 y6)).setCell ⟨B, 7, none⟩ (.int .u64 y7)).alloc (.cells #[.int .u64 x0, .int .u64 x1, .int .u64 x2, .int .u64 x3, .int .u64 x4, .int .u64 x5, .int .u64 x6, .int .u64 x7] 24)) x0 x1 x2 x3 x4 x5 x6 x7 y0 y1 y2 y3 y4 y5 y6 y7 (.pointer (some ⟨W.heap.size, 0, none⟩)) (.pointer (some ⟨B, 0, none⟩)) := by
  have hs : ((((((((W.setCell ⟨B, 0, none⟩ (.int .u64 y0)).setCell ⟨B, 1, none⟩ (.int .u64 y1)).setCell ⟨B, 2, none⟩ (.int .u64 y2)).setCell ⟨B, 3, none⟩ (.int .u64 y3)).setCell ⟨B, 4, none⟩ (.int .u64 y4)).setCell ⟨B, 5, none⟩ (.int .u64 y5)).setCell ⟨B, 6, none⟩ (.int .u64 y6)).setCell ⟨B, 7, none⟩ (.int .u64 y7)).heap.size = W.heap.size := by simp
  have k8 := set8_heap m (.int .u64 y0) (.int .u64 y1) (.int .u64 y2) (.int .u64 y3) (.int .u64 y4) (.int .u64 y5) (.int .u64 y6) (.int .u64 y7)
  have X := below_set8 x hB (.int .u64 y0) (.int .u64 y1) (.int .u64 y2) (.int .u64 y3) (.int .u64 y4) (.int .u64 y5) (.int .u64 y6) (.int .u64 y7)
  generalize ((((((((W.setCell ⟨B, 0, none⟩ (.int .u64 y0)).setCell ⟨B, 1, none⟩ (.int .u64 y1)).setCell ⟨B, 2, none⟩ (.int .u64 y2)).setCell ⟨B, 3, none⟩ (.int .u64 y3)).setCell ⟨B, 4, none⟩ (.int .u64 y4)).setCell ⟨B, 5, none⟩ (.int .u64 y5)).setCell ⟨B, 6, none⟩ (.int .u64 y6)).setCell ⟨B, 7, none⟩ (.int .u64 y7)) = V at *
  rw [← hs]
  exact ⟨_, _, rfl, rfl, (MapKept.heap_alloc V _).1, carry k8 (below_al (Below.refl _ _) _), below_al X _⟩
theorem tw_c {B C : Nat} (x : Below wb.heap.size wb W) (m : W.heap[B]? = some (.cells #[.int .u64 0, .int .u64 0, .int .u64 0, .int .u64 0, .int .u64 0, .int .u64 0, .int .u64 0, .int .u64 0] 24)) (m' : W.heap[C]? = some (.cells #[.int .u64 0, .int .u64 0, .int .u64 0, .int .u64 0, .int .u64 0, .int .u64 0, .int .u64 0, .int .u64 0] 24)) (hB : wb.heap.size ≤ B) (hC : wb.heap.size ≤ C) (hne : B ≠ C) :
    TwoW wb ((((((((((((((((W.setCell ⟨B, 0, none⟩ (.int .u64 x0)).setCell ⟨B, 1, none⟩ (.int .u64 x1)).setCell ⟨B, 2, none⟩ (.int .u64 x2)).setCell ⟨B, 3, none⟩ (.int .u64 x3)).setCell ⟨B, 4, none⟩ (.int .u64 x4)).setCell ⟨B, 5, none⟩ (.int .u64 x5)).setCell ⟨B, 6, none⟩ (.int .u64 x6)).setCell ⟨B, 7, none⟩ (.int .u64 x7)).setCell ⟨C, 0, none⟩ (.int .u64 y0)).setCell ⟨C, 1, none⟩ (.int .u64 y1)).setCell ⟨C, 2, none⟩ (.int .u64 y2)).setCell ⟨C, 3, none⟩ (.int .u64 y3)).setCell ⟨C, 4, none⟩ (.int .u64 y4)).setCell ⟨C, 5, none⟩ (.int .u64 y5)).setCell ⟨C, 6, none⟩ (.int .u64 y6)).setCell ⟨C, 7, none⟩ (.int .u64 y7)) x0 x1 x2 x3 x4 x5 x6 x7 y0 y1 y2 y3 y4 y5 y6 y7 (.pointer (some ⟨B, 0, none⟩)) (.pointer (some ⟨C, 0, none⟩)) := by
  have k8 := set8_heap m (.int .u64 x0) (.int .u64 x1) (.int .u64 x2) (.int .u64 x3) (.int .u64 x4) (.int .u64 x5) (.int .u64 x6) (.int .u64 x7)
  have X := below_set8 x hB (.int .u64 x0) (.int .u64 x1) (.int .u64 x2) (.int .u64 x3) (.int .u64 x4) (.int .u64 x5) (.int .u64 x6) (.int .u64 x7)
  have m'' := (set8_other (W := W) (B := B) (k := C) hne.symm (.int .u64 x0) (.int .u64 x1) (.int .u64 x2) (.int .u64 x3) (.int .u64 x4) (.int .u64 x5) (.int .u64 x6) (.int .u64 x7)).trans m'
  generalize ((((((((W.setCell ⟨B, 0, none⟩ (.int .u64 x0)).setCell ⟨B, 1, none⟩ (.int .u64 x1)).setCell ⟨B, 2, none⟩ (.int .u64 x2)).setCell ⟨B, 3, none⟩ (.int .u64 x3)).setCell ⟨B, 4, none⟩ (.int .u64 x4)).setCell ⟨B, 5, none⟩ (.int .u64 x5)).setCell ⟨B, 6, none⟩ (.int .u64 x6)).setCell ⟨B, 7, none⟩ (.int .u64 x7)) = V at *
  have k9 := set8_heap m'' (.int .u64 y0) (.int .u64 y1) (.int .u64 y2) (.int .u64 y3) (.int .u64 y4) (.int .u64 y5) (.int .u64 y6) (.int .u64 y7)
  have k8' := (set8_other (W := V) (B := C) (k := B) hne (.int .u64 y0) (.int .u64 y1) (.int .u64 y2) (.int .u64 y3) (.int .u64 y4) (.int .u64 y5) (.int .u64 y6) (.int .u64 y7)).trans k8
  have X' := below_set8 X hC (.int .u64 y0) (.int .u64 y1) (.int .u64 y2) (.int .u64 y3) (.int .u64 y4) (.int .u64 y5) (.int .u64 y6) (.int .u64 y7)
  exact ⟨_, _, rfl, rfl, k8', k9, X'⟩
end
def fromR (n : Nat) : Code → Option Code
  | .seq a b => match findR n a with | some _ => some (.seq a b) | none => fromR n b
  | _ => none
end Go.Proofs.YtaafimabgcnbaabGreatDoor
