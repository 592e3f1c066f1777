/-
  slices.Clone and slices.Sort of integers.
-/
import Derived.Test.YtjnjhmginnaobaaGreatMP
import Derived.Test.YtjnjhmginnaobaaGreatMLL
import Derived.Test.YtjnjhmginnaobaaGreatMEA
import Derived.Sort.OwnSortedInts
set_option linter.all false
namespace Go.Proofs.YtjnjhmginnaobaaGreat
open Go Go.RowKit Go.Big Go.Shelf Go.Sort
attribute [local instance] noAv
/-- Block B begins with the integers l. -/
def IntsPre (B : Nat) (l : List Int) (w : World) : Prop := ∃ tl : List Value, w.heap[B]? = some (.cells (l.map (Value.int .i64) ++ tl).toArray 3)
theorem IntsPre.lt {B : Nat} {l : List Int} {w : World} (h : IntsPre B l w) : B < w.heap.size := ltH h.choose_spec
theorem IntsPre.cell {B : Nat} {l : List Int} {w : World} (h : IntsPre B l w) {j : Nat} (hj : j < l.length) : w.cell? ⟨B, j, none⟩ = some (.int .i64 (l.getD j 0)) := by
  obtain ⟨tl, h⟩ := h
  rw [cellOf h]
  simp [List.getD, hj, List.getElem?_append_left]
theorem IntsPre.fz {B : Nat} {l : List Int} {w : World} (h : IntsPre B l w) (j : Nat) : w.frozen? ⟨B, j, none⟩ = false := frozenOf h.choose_spec
theorem IntsPre.set {B : Nat} {l : List Int} {w : World} (h : IntsPre B l w) {j : Nat} (hj : j < l.length) (d : Int) : IntsPre B (l.set j d) (w.setCell ⟨B, j, none⟩ (.int .i64 d)) := by
  obtain ⟨tl, h⟩ := h
  refine ⟨tl, ?_⟩
  rw [heap_setCell_same w B j _ 3 _ h]
  simp [List.map_set, List.set_append_left, hj]
theorem IntsPre.below {B n : Nat} {l : List Int} {w w' : World} (h : IntsPre B l w) (hb : Below n w w') (hB : B < n) : IntsPre B l w' := by
  obtain ⟨tl, h⟩ := h
  exact ⟨tl, (hb.block B hB).trans h⟩
theorem IntsPre.far {B : Nat} {l : List Int} {w : World} (h : IntsPre B l w) {a : Addr} (hB : B ≠ a.block) (v : Value) : IntsPre B l (w.setCell a v) := by
  obtain ⟨tl, h⟩ := h
  exact ⟨tl, (setFar hB v).trans h⟩
theorem IntsPre.row {B c : Nat} {l : List Int} {w : World} (h : IntsPre B l w) (hc : l.length ≤ c) : RowK .i64 w (.slice (some ⟨B, 0, none⟩) l.length c) l :=
  .inr ⟨B, 0, c, rfl, hc, h.lt, fun j hj => by rw [Nat.zero_add]; exact h.cell hj, fun h => h, fun _ h => h.elim⟩
theorem IntsAt.pre {B : Nat} {l : List Int} {w : World} (h : IntsAt B l w) : IntsPre B l w := ⟨[], by rw [List.append_nil]; exact h⟩
theorem clone_c {w : World} {B c : Nat} {l : List Int} (h : IntsPre B l w) (hl : l.length ≤ 400) :
    Calls Tryz.prog 8 #[.slice (some ⟨B, 0, none⟩) l.length c] w (Gets (fun w' r => ∃ g cap, r = .slice (some ⟨g, 0, none⟩) l.length cap ∧ l.length ≤ cap ∧ w.heap.size ≤ g ∧ IntsPre g l w') w) := by
  obtain ⟨i0, hi, hz0, hz1, hz2⟩ := info_parts Tryz.info3
  have k := AnyE.slices_Clone Tryz.laysClone i0 (.int .i64 0) 1 8 hi hz0 hz1 hz2 rfl (by decide) Tryz.sizeOf3 B 0 l.length c (l.map (Value.int .i64)) w (by simp) (by unfold maxLen; omega) (by omega)
    (fun j u hj => by
      have hj' : j < l.length := by
        have := (List.getElem?_eq_some_iff.1 hj).1
        simpa using this
      rw [Nat.zero_add, h.cell hj']
      simp [List.getD, hj'] at hj ⊢
      exact hj) (fun u hu => by
      simp at hu
      obtain ⟨x, _, rfl⟩ := hu
      rfl)
  refine k.mono fun e w' he => ?_
  obtain ⟨v, rfl, own, hne, hb⟩ := he
  obtain ⟨h0, h1⟩ := own
  rcases h1 with ⟨h1, _⟩ | ⟨g, cap, cur, rfl, hbg, hg, hle, _, hs, ht⟩
  · exact absurd h1 hne
  · exact ⟨_, rfl, ⟨g, cap, rfl, hle, hbg, ⟨cur.toList.drop (l.length * 1), by rw [← ht, List.take_append_drop]; exact hg⟩⟩, hb⟩
theorem sort_c {w : World} {g c : Nat} {l : List Int} (h : IntsPre g l w) (hl : l.length ≤ 400) :
    Calls Tryz.prog 9 #[.slice (some ⟨g, 0, none⟩) l.length c] w (fun e w' => e = .returned (.tuple #[]) ∧ IntsPre g (l.mergeSort fun x y => decide (x ≤ y)) w' ∧ w.grownBy w' (some g)) := by
  obtain ⟨tl, hg⟩ := h
  have ht : (l.map (Value.int .i64) ++ tl).toArray.toList.take l.length = l.map (Value.int .i64) := by simp
  have k := AnyM.slices_Sort_int Tryz.laysSort g 0 c l w (holds_of_blockI hg ht) (ltH hg) (by omega)
  refine k.mono fun e w' he => ?_
  obtain ⟨rfl, n, os, rfl⟩ := he
  refine ⟨rfl, ?_, grownBy_sortedI _⟩
  have e1 := take_putCellsI (l.map (Value.int .i64) ++ tl).toArray (l.mergeSort fun x y => decide (x ≤ y)) (by simp)
  generalize hS : (l.mergeSort fun x y => decide (x ≤ y)) = ts at *
  refine ⟨(putCells (Value.int .i64) 0 ts.toArray (l.map (Value.int .i64) ++ tl).toArray).toList.drop ts.length, (heap_sortedI ts.toArray hg).trans ?_⟩
  rw [← e1, List.take_append_drop]
end Go.Proofs.YtjnjhmginnaobaaGreat
