/-
  Contracts of the reference: Integer, Int.
-/
import Derived.Test.YtfeapgpjchjphaaGreatMN
set_option linter.all false
namespace Go.Proofs.YtfeapgpjchjphaaGreat
open Go Go.RowKit Go.Big
attribute [local instance] noAv
theorem small_i64 {n : Int} (h0 : -9223372036854775808 ≤ n) (h1 : n ≤ 9223372036854775807) : small n := small_fit (fit_i64 h0 h1)
theorem two_cells {w W : World} {x1 x2 : Value} {t : TypeId} (hb : Below (w.heap.size + 1) (w.alloc (.cells #[x1, x2] t)) W) : W.cell? ⟨w.heap.size, 0, none⟩ = some x1 ∧ W.cell? ⟨w.heap.size, 1, none⟩ = some x2 := by
  have k := (hb.block w.heap.size (by omega)).trans (MapKept.heap_alloc w (.cells #[x1, x2] t)).1
  exact ⟨(cellOf k).trans rfl, (cellOf k).trans rfl⟩
def intR (z : Int) : Value := if -9223372036854775808 ≤ z ∧ z ≤ 9223372036854775807 then .tuple #[.int .i64 z, .int .i64 0] else .tuple #[.int .i64 0, .int .i64 6]
end Go.Proofs.YtfeapgpjchjphaaGreat
