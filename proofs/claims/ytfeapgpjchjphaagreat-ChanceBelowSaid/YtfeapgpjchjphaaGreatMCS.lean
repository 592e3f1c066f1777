/-
  Shuffle for every number.
-/
import Derived.Test.YtfeapgpjchjphaaGreatMCK
set_option linter.all false
namespace Go.Proofs.YtfeapgpjchjphaaGreat
open Go Go.RowKit Go.Big Go.Shelf
attribute [local instance] noAv
/-- Block B holds the integers l. -/
def IntsAt (B : Nat) (l : List Int) (w : World) : Prop := w.heap[B]? = some (.cells (l.map (Value.int .i64)).toArray 3)
theorem IntsAt.cell {B : Nat} {l : List Int} {w : World} (h : IntsAt B l w) {j : Nat} (hj : j < l.length) : w.cell? ⟨B, j, none⟩ = some (.int .i64 (l.getD j 0)) := by
  rw [cellOf h]
  simp [List.getD, hj]
theorem IntsAt.fz {B : Nat} {l : List Int} {w : World} (h : IntsAt B l w) (j : Nat) : w.frozen? ⟨B, j, none⟩ = false := frozenOf h
theorem IntsAt.set {B : Nat} {l : List Int} {w : World} (h : IntsAt B l w) (j : Nat) (d : Int) : IntsAt B (l.set j d) (w.setCell ⟨B, j, none⟩ (.int .i64 d)) := by
  unfold IntsAt
  rw [heap_setCell_same w B j _ 3 _ h]
  simp [List.map_set]
theorem IntsAt.below {B n : Nat} {l : List Int} {w w' : World} (h : IntsAt B l w) (hb : Below n w w') (hB : B < n) : IntsAt B l w' := (hb.block B hB).trans h
/-- Two elements change places. -/
def swapL (l : List Int) (i j : Nat) : List Int := (l.set i (l.getD j 0)).set j (l.getD i 0)
theorem swapL_length (l : List Int) (i j : Nat) : (swapL l i j).length = l.length := by simp [swapL]
/-- What a shuffle makes of a list from the place i down. -/
def ShufV : Nat → Int → List Int → Option (Int × List Int) → Prop
  | 0, s, l, o => o = some (s, l)
  | i + 1, s, l, o => (∃ (k : Nat) (s' : Int), k < i + 2 ∧ BelowV s ((i : Int) + 2) (.tuple #[.int .i64 k, .agg #[.int .u64 s'], .int .i64 0]) ∧ ShufV i s' (swapL l (i + 1) k) o)
      ∨ (BelowV s ((i : Int) + 2) (.tuple #[.int .i64 0, .agg #[.int .u64 0], .int .i64 9]) ∧ o = none)
/-- The list of the first numbers. -/
def firstN (n : Nat) : List Int := (List.range n).map Int.ofNat
/-- The list of the first numbers so far, then zeros. -/
def partN (n j : Nat) : List Int := (List.range n).map fun i => if i < j then (i : Int) else 0
theorem partN_zero (n : Nat) : partN n 0 = List.replicate n 0 := by
  unfold partN
  apply List.ext_getElem
  · simp
  · intro i h1 h2; simp
theorem partN_all (n : Nat) : partN n n = firstN n := by
  unfold partN firstN
  apply List.map_congr_left
  intro i hi
  simp [List.mem_range.1 hi]
theorem partN_set (n j : Nat) : (partN n j).set j (j : Int) = partN n (j + 1) := by
  unfold partN
  apply List.ext_getElem
  · simp
  · intro i h1 h2
    rw [List.getElem_set]
    simp only [List.getElem_map, List.getElem_range]
    split
    · rename_i h; subst h; simp
    · rename_i h
      by_cases hi : i < j
      · simp [hi, show i < j + 1 by omega]
      · simp [hi, show ¬ i < j + 1 by omega]
theorem partN_length (n j : Nat) : (partN n j).length = n := by simp [partN]
theorem firstN_length (n : Nat) : (firstN n).length = n := by simp [firstN]
set_option maxRecDepth 100000 in
theorem made_ints (n : Nat) : madeCells (Value.int .i64 0).cells (n * 1) = ((partN n 0).map (Value.int .i64)).toArray := by
  rw [partN_zero, Nat.mul_one]
  apply Array.ext
  · simp [madeCells]
  · intro i h1 h2
    simp [madeCells, Value.cells, Nat.mod_one]
set_option maxHeartbeats 1600000 in
set_option maxRecDepth 100000 in
theorem make_n (U : World) (n : Nat) (hn : n ≤ 400) : (Instr.makeSlice 45 (.int .i64 (n : Int)) (.int .i64 (n : Int))).run Tryz.prog U = .ok (.slice (some ⟨U.heap.size, 0, none⟩) n n) (U.alloc (.cells ((partN n 0).map (Value.int .i64)).toArray 3)) :=
  (run_makeSlice (P := Tryz.prog) U 45 3 Tryz.t3 (.int .i64 0) (by kernel_rfl) (by kernel_rfl) (by kernel_rfl) .i64 .i64 n n (Int.natCast_nonneg n) (Int.le_refl _) (by rw [show Tryz.t3.size = 1 by kernel_rfl, Int.toNat_natCast]; omega) (by rw [show Tryz.t3.bytes = 8 by kernel_rfl]; omega) (by omega)).trans (by rw [show Tryz.t3.size = 1 by kernel_rfl, Int.toNat_natCast, made_ints])
end Go.Proofs.YtfeapgpjchjphaaGreat
