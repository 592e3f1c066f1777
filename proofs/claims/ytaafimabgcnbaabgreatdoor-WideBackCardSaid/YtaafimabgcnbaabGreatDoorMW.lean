/-
  A long division, whole.
-/
import Derived.Test.YtaafimabgcnbaabGreatDoorMV
import Derived.Test.YtaafimabgcnbaabGreatDoorMU
import Derived.Test.YtaafimabgcnbaabGreatDoorMS
set_option linter.all false
namespace Go.Proofs.YtaafimabgcnbaabGreatDoor
open Go Go.Rx Go.RowKit Go.Big
attribute [local instance] noAv
theorem cells8_of {W : World} {B : Nat} {t : TypeId} {a0 a1 a2 a3 a4 a5 a6 a7 : Int} (h : W.heap[B]? = some (.cells #[.int .u64 a0, .int .u64 a1, .int .u64 a2, .int .u64 a3, .int .u64 a4, .int .u64 a5, .int .u64 a6, .int .u64 a7] t)) : W.cell? ⟨B, 0, none⟩ = some (.int .u64 a0) ∧ W.cell? ⟨B, 1, none⟩ = some (.int .u64 a1) ∧ W.cell? ⟨B, 2, none⟩ = some (.int .u64 a2) ∧ W.cell? ⟨B, 3, none⟩ = some (.int .u64 a3) ∧ W.cell? ⟨B, 4, none⟩ = some (.int .u64 a4) ∧ W.cell? ⟨B, 5, none⟩ = some (.int .u64 a5) ∧ W.cell? ⟨B, 6, none⟩ = some (.int .u64 a6) ∧ W.cell? ⟨B, 7, none⟩ = some (.int .u64 a7) :=
  ⟨(cellOf (j := 0) h).trans rfl, (cellOf (j := 1) h).trans rfl, (cellOf (j := 2) h).trans rfl, (cellOf (j := 3) h).trans rfl, (cellOf (j := 4) h).trans rfl, (cellOf (j := 5) h).trans rfl, (cellOf (j := 6) h).trans rfl, (cellOf (j := 7) h).trans rfl⟩
theorem list9 {α : Type} {l : List α} (h : l.length = 9) : ∃ a b c d e f g i j, l = [a, b, c, d, e, f, g, i, j] := by
  match l, h with
  | [a, b, c, d, e, f, g, i, j], _ => exact ⟨a, b, c, d, e, f, g, i, j, rfl⟩
theorem set8_heap {W : World} {B : Nat} {t : TypeId} {z0 z1 z2 z3 z4 z5 z6 z7 : Value} (h : W.heap[B]? = some (.cells #[z0, z1, z2, z3, z4, z5, z6, z7] t)) (u0 u1 u2 u3 u4 u5 u6 u7 : Value) :
    ((((((((W.setCell ⟨B, 0, none⟩ u0).setCell ⟨B, 1, none⟩ u1).setCell ⟨B, 2, none⟩ u2).setCell ⟨B, 3, none⟩ u3).setCell ⟨B, 4, none⟩ u4).setCell ⟨B, 5, none⟩ u5).setCell ⟨B, 6, none⟩ u6).setCell ⟨B, 7, none⟩ u7).heap[B]? = some (.cells #[u0, u1, u2, u3, u4, u5, u6, u7] t) := by
  have h0 : (W.setCell ⟨B, 0, none⟩ u0).heap[B]? = some (.cells #[u0, z1, z2, z3, z4, z5, z6, z7] t) := heap_setCell_same _ B 0 _ t u0 h
  have h1 : ((W.setCell ⟨B, 0, none⟩ u0).setCell ⟨B, 1, none⟩ u1).heap[B]? = some (.cells #[u0, u1, z2, z3, z4, z5, z6, z7] t) := heap_setCell_same _ B 1 _ t u1 h0
  have h2 : (((W.setCell ⟨B, 0, none⟩ u0).setCell ⟨B, 1, none⟩ u1).setCell ⟨B, 2, none⟩ u2).heap[B]? = some (.cells #[u0, u1, u2, z3, z4, z5, z6, z7] t) := heap_setCell_same _ B 2 _ t u2 h1
  have h3 : ((((W.setCell ⟨B, 0, none⟩ u0).setCell ⟨B, 1, none⟩ u1).setCell ⟨B, 2, none⟩ u2).setCell ⟨B, 3, none⟩ u3).heap[B]? = some (.cells #[u0, u1, u2, u3, z4, z5, z6, z7] t) := heap_setCell_same _ B 3 _ t u3 h2
  have h4 : (((((W.setCell ⟨B, 0, none⟩ u0).setCell ⟨B, 1, none⟩ u1).setCell ⟨B, 2, none⟩ u2).setCell ⟨B, 3, none⟩ u3).setCell ⟨B, 4, none⟩ u4).heap[B]? = some (.cells #[u0, u1, u2, u3, u4, z5, z6, z7] t) := heap_setCell_same _ B 4 _ t u4 h3
  have h5 : ((((((W.setCell ⟨B, 0, none⟩ u0).setCell ⟨B, 1, none⟩ u1).setCell ⟨B, 2, none⟩ u2).setCell ⟨B, 3, none⟩ u3).setCell ⟨B, 4, none⟩ u4).setCell ⟨B, 5, none⟩ u5).heap[B]? = some (.cells #[u0, u1, u2, u3, u4, u5, z6, z7] t) := heap_setCell_same _ B 5 _ t u5 h4
  have h6 : (((((((W.setCell ⟨B, 0, none⟩ u0).setCell ⟨B, 1, none⟩ u1).setCell ⟨B, 2, none⟩ u2).setCell ⟨B, 3, none⟩ u3).setCell ⟨B, 4, none⟩ u4).setCell ⟨B, 5, none⟩ u5).setCell ⟨B, 6, none⟩ u6).heap[B]? = some (.cells #[u0, u1, u2, u3, u4, u5, u6, z7] t) := heap_setCell_same _ B 6 _ t u6 h5
  have h7 : ((((((((W.setCell ⟨B, 0, none⟩ u0).setCell ⟨B, 1, none⟩ u1).setCell ⟨B, 2, none⟩ u2).setCell ⟨B, 3, none⟩ u3).setCell ⟨B, 4, none⟩ u4).setCell ⟨B, 5, none⟩ u5).setCell ⟨B, 6, none⟩ u6).setCell ⟨B, 7, none⟩ u7).heap[B]? = some (.cells #[u0, u1, u2, u3, u4, u5, u6, u7] t) := heap_setCell_same _ B 7 _ t u7 h6
  exact h7
theorem set8_other {W : World} {B k : Nat} (h : k ≠ B) (u0 u1 u2 u3 u4 u5 u6 u7 : Value) :
    ((((((((W.setCell ⟨B, 0, none⟩ u0).setCell ⟨B, 1, none⟩ u1).setCell ⟨B, 2, none⟩ u2).setCell ⟨B, 3, none⟩ u3).setCell ⟨B, 4, none⟩ u4).setCell ⟨B, 5, none⟩ u5).setCell ⟨B, 6, none⟩ u6).setCell ⟨B, 7, none⟩ u7).heap[k]? = W.heap[k]? := by
  rw [heap_setCell_other _ _ _ _ h, heap_setCell_other _ _ _ _ h, heap_setCell_other _ _ _ _ h, heap_setCell_other _ _ _ _ h, heap_setCell_other _ _ _ _ h, heap_setCell_other _ _ _ _ h, heap_setCell_other _ _ _ _ h, heap_setCell_other _ _ _ _ h]
set_option maxHeartbeats 4000000 in
set_option maxRecDepth 100000 in
theorem divide_c {w : World} {m0 m1 m2 m3 m4 m5 m6 m7 n0 n1 n2 n3 n4 n5 n6 n7 : Int} {L S s1 s2 : Nat} (h1 : S = s1 + 1) (h2 : S = s2 + 2) (hS : S ≤ 8) (hL : L ≤ 8) (hms : wgood [m0, m1, m2, m3, m4, m5, m6, m7]) (hns : wgood [n0, n1, n2, n3, n4, n5, n6, n7]) (hmL : wval ([m0, m1, m2, m3, m4, m5, m6, m7].take L) = wval [m0, m1, m2, m3, m4, m5, m6, m7]) (hnS : wval ([n0, n1, n2, n3, n4, n5, n6, n7].take S) = wval [n0, n1, n2, n3, n4, n5, n6, n7]) (htop : [n0, n1, n2, n3, n4, n5, n6, n7].getD s1 0 ≠ 0)
    (hlm : ∀ W, Calls Tryz.prog 72 #[.agg #[.int .u64 m0, .int .u64 m1, .int .u64 m2, .int .u64 m3, .int .u64 m4, .int .u64 m5, .int .u64 m6, .int .u64 m7]] W (Gets (fun _ r => r = .int .i64 L) W))
    (hln : ∀ W, Calls Tryz.prog 72 #[.agg #[.int .u64 n0, .int .u64 n1, .int .u64 n2, .int .u64 n3, .int .u64 n4, .int .u64 n5, .int .u64 n6, .int .u64 n7]] W (Gets (fun _ r => r = .int .i64 S) W)) :
    Calls Tryz.prog 70 #[.agg #[.int .u64 m0, .int .u64 m1, .int .u64 m2, .int .u64 m3, .int .u64 m4, .int .u64 m5, .int .u64 m6, .int .u64 m7], .agg #[.int .u64 n0, .int .u64 n1, .int .u64 n2, .int .u64 n3, .int .u64 n4, .int .u64 n5, .int .u64 n6, .int .u64 n7]] w (Gets (fun _ r => QuotR (wval [m0, m1, m2, m3, m4, m5, m6, m7]) (wval [n0, n1, n2, n3, n4, n5, n6, n7]) r) w) := by
  have g0 : 0 ≤ [n0, n1, n2, n3, n4, n5, n6, n7].getD s1 0 ∧ [n0, n1, n2, n3, n4, n5, n6, n7].getD s1 0 < 18446744073709551616 := wgood_get hns s1
  obtain ⟨p, hp, hp63, hpl, hpu⟩ := lead_facts (y := [n0, n1, n2, n3, n4, n5, n6, n7].getD s1 0) (by omega)
  have LZ : ∀ w, Calls Tryz.prog 95 #[.int .u64 ([n0, n1, n2, n3, n4, n5, n6, n7].getD s1 0)] w fun e w' => e = .returned (.int .i64 (p : Nat)) ∧ w' = w := fun w => by
    have := lead64_c ([n0, n1, n2, n3, n4, n5, n6, n7].getD s1 0) w g0.1 (by omega)
    rw [hp] at this
    exact this
  have S1 : ¬ (S : Int) = 1 := by omega
  have e1 : IntKind.i64.wrap ((S : Int) - 1) = (s1 : Int) := by rw [IntKind.wrap_i64]; omega
  have j1 : (s1 : Int) < 8 := by omega
  have j0 : (0 : Int) ≤ (s1 : Int) := by omega
  obtain ⟨k1, k2, k3, k4⟩ := heap4 w (.cells #[.int .u64 m0, .int .u64 m1, .int .u64 m2, .int .u64 m3, .int .u64 m4, .int .u64 m5, .int .u64 m6, .int .u64 m7] 59) (.cells #[.int .u64 n0, .int .u64 n1, .int .u64 n2, .int .u64 n3, .int .u64 n4, .int .u64 n5, .int .u64 n6, .int .u64 n7] 59) (.cells #[.int .u64 0, .int .u64 0, .int .u64 0, .int .u64 0, .int .u64 0, .int .u64 0, .int .u64 0, .int .u64 0] 59) (.cells #[.int .u64 0, .int .u64 0, .int .u64 0, .int .u64 0, .int .u64 0, .int .u64 0, .int .u64 0, .int .u64 0] 59)
  have b4 : Below w.heap.size w ((((w.alloc (.cells #[.int .u64 m0, .int .u64 m1, .int .u64 m2, .int .u64 m3, .int .u64 m4, .int .u64 m5, .int .u64 m6, .int .u64 m7] 59)).alloc (.cells #[.int .u64 n0, .int .u64 n1, .int .u64 n2, .int .u64 n3, .int .u64 n4, .int .u64 n5, .int .u64 n6, .int .u64 n7] 59)).alloc (.cells #[.int .u64 0, .int .u64 0, .int .u64 0, .int .u64 0, .int .u64 0, .int .u64 0, .int .u64 0, .int .u64 0] 59)).alloc (.cells #[.int .u64 0, .int .u64 0, .int .u64 0, .int .u64 0, .int .u64 0, .int .u64 0, .int .u64 0, .int .u64 0] 59)) := ((((Below.refl _ _).alloc (Nat.le_refl _) _).alloc (by simp) _).alloc (by simp; omega) _).alloc (by simp; omega) _
  go_enter Tryz.func70, Tryz.ntmps70
  go_wp2_with fail
  generalize ((((w.alloc (.cells #[.int .u64 m0, .int .u64 m1, .int .u64 m2, .int .u64 m3, .int .u64 m4, .int .u64 m5, .int .u64 m6, .int .u64 m7] 59)).alloc (.cells #[.int .u64 n0, .int .u64 n1, .int .u64 n2, .int .u64 n3, .int .u64 n4, .int .u64 n5, .int .u64 n6, .int .u64 n7] 59)).alloc (.cells #[.int .u64 0, .int .u64 0, .int .u64 0, .int .u64 0, .int .u64 0, .int .u64 0, .int .u64 0, .int .u64 0] 59)).alloc (.cells #[.int .u64 0, .int .u64 0, .int .u64 0, .int .u64 0, .int .u64 0, .int .u64 0, .int .u64 0, .int .u64 0] 59)) = W4 at *
  obtain ⟨A1, hA1⟩ : ∃ A1, A1 = w.heap.size + 1 := ⟨_, rfl⟩
  obtain ⟨A2, hA2⟩ : ∃ A2, A2 = w.heap.size + 1 + 1 := ⟨_, rfl⟩
  obtain ⟨A3, hA3⟩ : ∃ A3, A3 = w.heap.size + 1 + 1 + 1 := ⟨_, rfl⟩
  rw [← hA3] at k4
  rw [← hA2] at k3
  rw [← hA1] at k2
  simp only [← hA3]
  simp only [← hA2]
  simp only [← hA1]
  have o1 : w.heap.size < A1 := by omega
  have o2 : A1 < A2 := by omega
  have o3 : A2 < A3 := by omega
  have hs1 : s1 < 8 := by omega
  have hSs : S = s1 + 1 := h1
  have H1 := Lib.hid h1
  have H2 := Lib.hid h2
  clear h1 h2 hA1 hA2 hA3 hSs
  with_reducible refine (hln _).mono ?_
  rintro e w1 ⟨r1, rfl, rfl, hb1⟩
  have hClt : A3 < W4.heap.size := (Array.getElem?_eq_some_iff.1 k4).1
  have q1 := (hb1.block w.heap.size (by omega)).trans k1
  have q2 := (hb1.block A1 (by omega)).trans k2
  have q3 := (hb1.block A2 (by omega)).trans k3
  have q4 := (hb1.block A3 hClt).trans k4
  have b1 : Below w.heap.size w w1 := b4.trans (hb1.mono b4.size)
  have hcn : w1.cell? ⟨A1, s1, none⟩ = some (.int .u64 ([n0, n1, n2, n3, n4, n5, n6, n7].getD s1 0)) := by
    rw [cellOf q2]; exact col_words (l := [n0, n1, n2, n3, n4, n5, n6, n7]) (by show s1 < 8; exact hs1)
  obtain ⟨x0, x1, x2, x3, x4, x5, x6, x7⟩ := cells8_of q2
  have hw1 : A3 < w1.heap.size := (Array.getElem?_eq_some_iff.1 q4).1
  clear hb1 k1 k2 k3 k4 b4 hln hp
  generalize hy : [n0, n1, n2, n3, n4, n5, n6, n7].getD s1 0 = y at *
  go_wp2_with fail
  with_reducible refine (LZ _).mono ?_
  rintro e w2 ⟨rfl, rfl⟩
  go_wp2_with fail
  obtain ⟨hP1, hP2, hP3⟩ := pow_parts hp63
  with_reducible refine (left_c (W := 0) (p := p) (by omega) hp63 (by omega) hns).mono ?_
  rintro e w3 ⟨r3, rfl, ⟨ds, k, hk, dl, dg, hs, rfl⟩, hb3⟩
  obtain rfl : k = 8 := by omega
  rw [List.take_of_length_le (show ([n0, n1, n2, n3, n4, n5, n6, n7] : List Int).length ≤ 8 from Nat.le_refl _), show pw (2 * 0) = 1 from rfl, Int.mul_one] at hs
  obtain ⟨f1, f2, f3, f4, f5, f6⟩ := left_facts H1.out hS rfl hns hnS hy hP1 hP3 hpl hpu dl dg (upper_lt hns hp63 8).1 hs
  obtain ⟨d0, d1, d2, d3, d4, d5, d6, d7, rfl⟩ := list8i dl
  clear hs hcn x0 x1 x2 x3 x4 x5 x6 x7 LZ hnS hy htop g0 hpl hpu
  obtain ⟨q1, q2, q3, q4, b1⟩ : w3.heap[w.heap.size]? = _ ∧ w3.heap[A1]? = _ ∧ w3.heap[A2]? = _ ∧ w3.heap[A3]? = _ ∧ Below w.heap.size w w3 := ⟨(hb3.block w.heap.size (by omega)).trans q1, (hb3.block A1 (by omega)).trans q2, (hb3.block A2 (by omega)).trans q3, (hb3.block A3 hw1).trans q4, b1.trans (hb3.mono b1.size)⟩
  have hw3 : A3 < w3.heap.size := Nat.lt_of_lt_of_le hw1 hb3.size
  clear hb3
  obtain ⟨V, hV⟩ : ∃ V, V = w3.heap.size := ⟨_, rfl⟩
  obtain ⟨v1, v2⟩ := heap2 w3 (.cells #[.int .u64 d0, .int .u64 d1, .int .u64 d2, .int .u64 d3, .int .u64 d4, .int .u64 d5, .int .u64 d6, .int .u64 d7] 59) (.cells #[.int .u64 0, .int .u64 0, .int .u64 0, .int .u64 0, .int .u64 0, .int .u64 0, .int .u64 0, .int .u64 0, .int .u64 0] 125)
  have v0 : ∀ b, b < w3.heap.size → ((w3.alloc (.cells #[.int .u64 d0, .int .u64 d1, .int .u64 d2, .int .u64 d3, .int .u64 d4, .int .u64 d5, .int .u64 d6, .int .u64 d7] 59)).alloc (.cells #[.int .u64 0, .int .u64 0, .int .u64 0, .int .u64 0, .int .u64 0, .int .u64 0, .int .u64 0, .int .u64 0, .int .u64 0] 125)).heap[b]? = w3.heap[b]? := fun b hb => (((Below.refl w3.heap.size w3).alloc (Nat.le_refl _) _).alloc (by simp) _).block b hb
  have vB : Below w3.heap.size w3 ((w3.alloc (.cells #[.int .u64 d0, .int .u64 d1, .int .u64 d2, .int .u64 d3, .int .u64 d4, .int .u64 d5, .int .u64 d6, .int .u64 d7] 59)).alloc (.cells #[.int .u64 0, .int .u64 0, .int .u64 0, .int .u64 0, .int .u64 0, .int .u64 0, .int .u64 0, .int .u64 0, .int .u64 0] 125)) := ((Below.refl w3.heap.size w3).alloc (Nat.le_refl _) _).alloc (by simp) _
  obtain ⟨y0, y1, y2, y3, y4, y5, y6, y7⟩ := cells8_of ((v0 w.heap.size (by omega)).trans q1)
  go_wp2_with fail
  obtain ⟨q1, q2, q3, q4⟩ : ((w3.alloc (.cells #[.int .u64 d0, .int .u64 d1, .int .u64 d2, .int .u64 d3, .int .u64 d4, .int .u64 d5, .int .u64 d6, .int .u64 d7] 59)).alloc (.cells #[.int .u64 0, .int .u64 0, .int .u64 0, .int .u64 0, .int .u64 0, .int .u64 0, .int .u64 0, .int .u64 0, .int .u64 0] 125)).heap[w.heap.size]? = _ ∧ ((w3.alloc (.cells #[.int .u64 d0, .int .u64 d1, .int .u64 d2, .int .u64 d3, .int .u64 d4, .int .u64 d5, .int .u64 d6, .int .u64 d7] 59)).alloc (.cells #[.int .u64 0, .int .u64 0, .int .u64 0, .int .u64 0, .int .u64 0, .int .u64 0, .int .u64 0, .int .u64 0, .int .u64 0] 125)).heap[A1]? = _ ∧ ((w3.alloc (.cells #[.int .u64 d0, .int .u64 d1, .int .u64 d2, .int .u64 d3, .int .u64 d4, .int .u64 d5, .int .u64 d6, .int .u64 d7] 59)).alloc (.cells #[.int .u64 0, .int .u64 0, .int .u64 0, .int .u64 0, .int .u64 0, .int .u64 0, .int .u64 0, .int .u64 0, .int .u64 0] 125)).heap[A2]? = _ ∧ ((w3.alloc (.cells #[.int .u64 d0, .int .u64 d1, .int .u64 d2, .int .u64 d3, .int .u64 d4, .int .u64 d5, .int .u64 d6, .int .u64 d7] 59)).alloc (.cells #[.int .u64 0, .int .u64 0, .int .u64 0, .int .u64 0, .int .u64 0, .int .u64 0, .int .u64 0, .int .u64 0, .int .u64 0] 125)).heap[A3]? = _ := ⟨(v0 w.heap.size (by omega)).trans q1, (v0 A1 (by omega)).trans q2, (v0 A2 (by omega)).trans q3, (v0 A3 hw3).trans q4⟩
  have b5 := b1.trans (vB.mono b1.size)
  clear b1 vB v0
  generalize ((w3.alloc (.cells #[.int .u64 d0, .int .u64 d1, .int .u64 d2, .int .u64 d3, .int .u64 d4, .int .u64 d5, .int .u64 d6, .int .u64 d7] 59)).alloc (.cells #[.int .u64 0, .int .u64 0, .int .u64 0, .int .u64 0, .int .u64 0, .int .u64 0, .int .u64 0, .int .u64 0, .int .u64 0] 125)) = W5 at *
  obtain ⟨R, hR⟩ : ∃ R, R = V + 1 := ⟨_, rfl⟩
  simp only [← hV]
  simp only [← hR]
  rw [← hV] at v1 v2
  rw [← hR] at v2
  have o4 : A3 < V := by omega
  have o5 : V < R := by omega
  clear hV hR hw3 y0 y1 y2 y3 y4 y5 y6 y7
  have hw5 : R < W5.heap.size := (Array.getElem?_eq_some_iff.1 v2).1
  with_reducible refine (left_c (W := 0) (p := p) (by omega) hp63 (by omega) hms).mono ?_
  rintro e W6 ⟨r6, rfl, ⟨ls, k, hk, ll, lg, hs, rfl⟩, hb6⟩
  obtain rfl : k = 8 := by omega
  rw [List.take_of_length_le (show ([m0, m1, m2, m3, m4, m5, m6, m7] : List Int).length ≤ 8 from Nat.le_refl _), show pw (2 * 0) = 1 from rfl, Int.mul_one] at hs
  obtain ⟨l0, l1, l2, l3, l4, l5, l6, l7, rfl⟩ := list8i ll
  obtain ⟨q1, q2, q3, q4, v1, v2, b6⟩ : W6.heap[w.heap.size]? = _ ∧ W6.heap[A1]? = _ ∧ W6.heap[A2]? = _ ∧ W6.heap[A3]? = _ ∧ W6.heap[V]? = _ ∧ W6.heap[R]? = _ ∧ Below w.heap.size w W6 := ⟨(hb6.block w.heap.size (by omega)).trans q1, (hb6.block A1 (by omega)).trans q2, (hb6.block A2 (by omega)).trans q3, (hb6.block A3 (by omega)).trans q4, (hb6.block V (by omega)).trans v1, (hb6.block R hw5).trans v2, b5.trans (hb6.mono b5.size)⟩
  have hw6 : R < W6.heap.size := (Array.getElem?_eq_some_iff.1 v2).1
  clear hb6 b5 hw5
  obtain ⟨x0, x1, x2, x3, x4, x5, x6, x7⟩ := cells8_of q4
  have fl : ∀ j, W6.frozen? ⟨A3, j, none⟩ = false := fun j => frozenOf q4
  have hsz : A3 < W6.heap.size := by omega
  go_wp2
  have t1 := fun k h => set8_other (W := W6) (B := A3) (k := k) h (.int .u64 l0) (.int .u64 l1) (.int .u64 l2) (.int .u64 l3) (.int .u64 l4) (.int .u64 l5) (.int .u64 l6) (.int .u64 l7)
  have t2 := set8_heap q4 (.int .u64 l0) (.int .u64 l1) (.int .u64 l2) (.int .u64 l3) (.int .u64 l4) (.int .u64 l5) (.int .u64 l6) (.int .u64 l7)
  have t3 := below_set8 b6 (show w.heap.size ≤ A3 by omega) (.int .u64 l0) (.int .u64 l1) (.int .u64 l2) (.int .u64 l3) (.int .u64 l4) (.int .u64 l5) (.int .u64 l6) (.int .u64 l7)
  generalize ((((((((W6.setCell ⟨A3, 0, none⟩ (.int .u64 l0)).setCell ⟨A3, 1, none⟩ (.int .u64 l1)).setCell ⟨A3, 2, none⟩ (.int .u64 l2)).setCell ⟨A3, 3, none⟩ (.int .u64 l3)).setCell ⟨A3, 4, none⟩ (.int .u64 l4)).setCell ⟨A3, 5, none⟩ (.int .u64 l5)).setCell ⟨A3, 6, none⟩ (.int .u64 l6)).setCell ⟨A3, 7, none⟩ (.int .u64 l7)) = W7 at *
  obtain ⟨q1, q2, q3, v1, v2⟩ : W7.heap[w.heap.size]? = _ ∧ W7.heap[A1]? = _ ∧ W7.heap[A2]? = _ ∧ W7.heap[V]? = _ ∧ W7.heap[R]? = _ := ⟨(t1 w.heap.size (by omega)).trans q1, (t1 A1 (by omega)).trans q2, (t1 A2 (by omega)).trans q3, (t1 V (by omega)).trans v1, (t1 R (by omega)).trans v2⟩
  clear t1 q4 b6 fl hsz x0 x1 x2 x3 x4 x5 x6 x7 hw6
  have hw7 : R < W7.heap.size := (Array.getElem?_eq_some_iff.1 v2).1
  obtain ⟨W8, hW8⟩ : ∃ W8, W8 = W7.drew.setRow R #[.int .u64 l0, .int .u64 l1, .int .u64 l2, .int .u64 l3, .int .u64 l4, .int .u64 l5, .int .u64 l6, .int .u64 l7, .int .u64 0] := ⟨_, rfl⟩
  have v2d : W7.drew.heap[R]? = some (.cells #[.int .u64 0, .int .u64 0, .int .u64 0, .int .u64 0, .int .u64 0, .int .u64 0, .int .u64 0, .int .u64 0, .int .u64 0] 125) := v2
  have hcp : (Builtin.copy_ #[126, 126] 3 #[.slice (some ⟨R, 0, none⟩) 9 9, .slice (some ⟨A3, 0, none⟩) 8 8]).run Tryz.prog W7.drew = .ok (.int .i64 8) W8 := by
    rw [hW8]
    exact run_copy_row (P := Tryz.prog) W7.drew 126 126 3 22 R 0 9 9 ⟨A3, 0, none⟩ 8 8 #[.int .u64 0, .int .u64 0, .int .u64 0, .int .u64 0, .int .u64 0, .int .u64 0, .int .u64 0, .int .u64 0, .int .u64 0] 125 [.int .u64 l0, .int .u64 l1, .int .u64 l2, .int .u64 l3, .int .u64 l4, .int .u64 l5, .int .u64 l6, .int .u64 l7] Tryz.underlying126 (by kernel_rfl) v2d rfl (fun j v hj => by
      rw [Addr.add_mid, Nat.zero_add]
      show W7.cell? ⟨A3, j, none⟩ = some v
      rw [cellOf t2, List.getElem?_toArray]
      exact hj) (show 0 + 8 ≤ 9 by decide) (fun v hv => by simp only [List.mem_cons, List.not_mem_nil, or_false] at hv; rcases hv with rfl | rfl | rfl | rfl | rfl | rfl | rfl | rfl <;> rfl)
  have u2 : W8.heap[R]? = some (.cells #[.int .u64 l0, .int .u64 l1, .int .u64 l2, .int .u64 l3, .int .u64 l4, .int .u64 l5, .int .u64 l6, .int .u64 l7, .int .u64 0] 125) := by rw [hW8]; exact setRow_heap _ _ _ _ _ _ v2d
  have uo : ∀ b, b ≠ R → W8.heap[b]? = W7.heap[b]? := fun b hb => by rw [hW8]; exact setRow_other _ _ _ _ hb
  obtain ⟨q1, q2, q3, q4, v1⟩ : W8.heap[w.heap.size]? = _ ∧ W8.heap[A1]? = _ ∧ W8.heap[A2]? = _ ∧ W8.heap[A3]? = _ ∧ W8.heap[V]? = _ := ⟨(uo w.heap.size (by omega)).trans q1, (uo A1 (by omega)).trans q2, (uo A2 (by omega)).trans q3, (uo A3 (by omega)).trans t2, (uo V (by omega)).trans v1⟩
  have b8 : Below w.heap.size w W8 := by rw [hW8]; exact below_setRow t3.drew (by omega) _
  have hw8 : R < W8.heap.size := (Array.getElem?_eq_some_iff.1 u2).1
  clear hW8 v2d t2 t3 uo v2
  go_region_with (fail)
  have m7b : 0 ≤ m7 ∧ m7 < 18446744073709551616 := hms m7 (by simp)
  have w3' : IntKind.i64.wrap (64 - (p : Int)) = ((64 - p : Nat) : Int) := by rw [IntKind.wrap_i64]; omega
  have hU : 0 ≤ m7 / (2 : Int) ^ (64 - p) ∧ m7 / (2 : Int) ^ (64 - p) < 18446744073709551616 := by
    have h1 := upper_lt hms hp63 8
    change 0 ≤ m7 / (2 : Int) ^ (64 - p) ∧ m7 / (2 : Int) ^ (64 - p) < (2 : Int) ^ p at h1
    have h2 : (2 : Int) ^ p * 1 ≤ (2 : Int) ^ p * (2 : Int) ^ (64 - p) := Int.mul_le_mul_of_nonneg_left hP2 (by omega)
    rw [hP3] at h2
    omega
  have hs' : wval ([l0, l1, l2, l3, l4, l5, l6, l7] ++ [m7 / (2 : Int) ^ (64 - p)]) = wval [m0, m1, m2, m3, m4, m5, m6, m7] * (2 : Int) ^ p := by
    rw [rest_val rfl]
    exact hs
  have w4' : IntKind.u64.wrap (m7 / (2 : Int) ^ (64 - p)) = m7 / (2 : Int) ^ (64 - p) := by rw [IntKind.wrap_u64]; omega
  have p0 : (0 : Int) ≤ (p : Int) := by omega
  have p1 : (p : Int) ≤ 63 := by omega
  have hm7 : W8.cell? ⟨w.heap.size, 7, none⟩ = some (.int .u64 m7) := (cellOf (j := 7) q1).trans rfl
  have fl : ∀ j, W8.frozen? ⟨R, j, none⟩ = false := fun j => frozenOf u2
  have h8 : W8.cell? ⟨R, 8, none⟩ = some (.int .u64 0) := (cellOf (j := 8) u2).trans rfl
  obtain ⟨U, hUe⟩ : ∃ U, U = m7 / (2 : Int) ^ (64 - p) := ⟨_, rfl⟩
  have z2 : (W8.setCell ⟨R, 8, none⟩ (.int .u64 U)).heap[R]? = some (.cells #[.int .u64 l0, .int .u64 l1, .int .u64 l2, .int .u64 l3, .int .u64 l4, .int .u64 l5, .int .u64 l6, .int .u64 l7, .int .u64 U] 125) := heap_setCell_same _ R 8 _ 125 _ u2
  have zo : ∀ b, b ≠ R → (W8.setCell ⟨R, 8, none⟩ (.int .u64 U)).heap[b]? = W8.heap[b]? := fun b hb => heap_setCell_other _ _ _ _ hb
  have zB : Below w.heap.size w (W8.setCell ⟨R, 8, none⟩ (.int .u64 U)) := b8.setCell (p := ⟨R, 8, none⟩) (show w.heap.size ≤ R by omega) _
  obtain ⟨y0, y1, y2, y3, y4, y5, y6, y7⟩ := cells8_of ((zo w.heap.size (by omega)).trans q1)
  rw [← hUe] at w4' hU hs'
  have hdU := hUe.symm
  clear hUe
  have hLS : IntKind.i64.wrap ((L : Int) - (S : Int)) = (L : Int) - (S : Int) := by rw [IntKind.wrap_i64]; omega
  clear hcp hs
  go_wp2_with fail
  with_reducible refine (hlm _).mono ?_
  rintro e W9 ⟨r9, rfl, rfl, hb9⟩
  obtain ⟨q3, q4, v1, z2, b9⟩ : W9.heap[A2]? = _ ∧ W9.heap[A3]? = _ ∧ W9.heap[V]? = _ ∧ W9.heap[R]? = _ ∧ Below w.heap.size w W9 := ⟨(hb9.block A2 (by simp; omega)).trans ((zo A2 (by omega)).trans q3), (hb9.block A3 (by simp; omega)).trans ((zo A3 (by omega)).trans q4), (hb9.block V (by simp; omega)).trans ((zo V (by omega)).trans v1), (hb9.block R (by simp; omega)).trans z2, zB.trans (hb9.mono zB.size)⟩
  clear hb9 zo zB q1 q2 b8 u2 hm7 fl h8 y0 y1 y2 y3 y4 y5 y6 y7 hlm w4' w3' hdU
  go_wp2
  have hP4 : 2 ≤ (2 : Int) ^ (64 - p) := by
    rw [show 64 - p = (63 - p) + 1 by omega, Int.pow_succ]
    have : (0 : Int) < 2 ^ (63 - p) := Int.pow_pos (by decide)
    omega
  have hP5 : (2 : Int) ^ p ≤ 9223372036854775808 := by
    have : (2 : Int) ^ p * 2 ≤ (2 : Int) ^ p * (2 : Int) ^ (64 - p) := Int.mul_le_mul_of_nonneg_left hP4 (by omega)
    omega
  have hmv := wval_take_lt hms L
  rw [hmL] at hmv
  have hrg : wgood ([l0, l1, l2, l3, l4, l5, l6, l7] ++ [U]) := by
    intro x hx
    rcases List.mem_append.1 hx with hx | hx
    · exact lg x hx
    · rw [List.mem_singleton.1 hx]; exact hU
  obtain ⟨k0, hk0, hkS, hk8, hLK⟩ : ∃ k0 : Nat, ((L : Int) - (S : Int) = (k0 : Int) - 1 ∨ (k0 = 0 ∧ (L : Int) - (S : Int) < 0)) ∧ (k0 = 0 ∨ k0 + S ≤ 9) ∧ k0 ≤ 8 ∧ LongK (wval [m0, m1, m2, m3, m4, m5, m6, m7] * (2 : Int) ^ p) (wval [n0, n1, n2, n3, n4, n5, n6, n7] * (2 : Int) ^ p) k0 (List.replicate 8 0) ([l0, l1, l2, l3, l4, l5, l6, l7] ++ [U]) := by
    have hS1 := H1.out
    have hS2 := H2.out
    rcases Nat.lt_or_ge L S with h | h
    · have h3 := pw_mono (show 2 * L ≤ 2 * s1 by omega)
      exact ⟨0, .inr ⟨rfl, by omega⟩, .inl rfl, by omega, LongK.none (by omega) (by omega) rfl hrg hs'⟩
    · exact ⟨L - S + 1, .inl (by omega), .inr (by omega), by omega, LongK.init hmv h ⟨by omega, hP5⟩ f5 rfl hrg hs'⟩
  refine long_loop (Q := A2) (R := R) (V := V) (ds := [d0, d1, d2, d3, d4, d5, d6, d7]) (qs0 := List.replicate 8 0) (rs0 := [l0, l1, l2, l3, l4, l5, l6, l7] ++ [U]) (by omega) o5 H1.out H2.out rfl dg (f3.trans f1) f2 f4 hkS hk8 hk0 (fun j hj => by
    rw [cellOf v1]; exact col_words (l := [d0, d1, d2, d3, d4, d5, d6, d7]) (by show j < 8; omega)) hLK q3 z2 _ _ _ _ _ _ _ _ _ _ _ _ _ _ _ _ _ _ _ _ _ _ _ _ _ _ _ _ _ _ _ _ _ _ _ _ _ _ _ _ _ _ _ _ _ _ _ _ _ _ _ _ _ _ _ _ _ _ _ _ _ _ _ _ _ _ _ (fun qs rs u10 u49 u50 u51 u52 u53 u54 u55 u56 u57 u58 u59 u60 u61 u62 u63 w1 hd hc => ?_)
  obtain ⟨g1, g2, g3, g4⟩ := hd.done (by omega) (Int.lt_of_lt_of_le f2 (pw_mono (by omega)))
  have hqg := hd.qg
  obtain ⟨a0, a1, a2, a3, a4, a5, a6, a7, rfl⟩ := list8i hd.ql
  obtain ⟨c0, c1, c2, c3, c4, c5, c6, c7, c8, rfl⟩ := list9 hd.rl
  have q4 := (hc.keep A3 (by omega) (by omega)).trans q4
  have q3 := hc.q
  have z2 := hc.r
  have b1 : Below w.heap.size w w1 := b9.trans (hc.bel.mono (by omega))
  have hw1 : A3 < w1.heap.size := (Array.getElem?_eq_some_iff.1 q4).1
  clear hc hd hLK hk0 hkS hk8 hrg hmv hP4 hP5 hs' v1 b9 hU
  go_wp2
  obtain ⟨Wg, hWg⟩ : ∃ Wg, Wg = w1.drew.setRow A3 #[.int .u64 c0, .int .u64 c1, .int .u64 c2, .int .u64 c3, .int .u64 c4, .int .u64 c5, .int .u64 c6, .int .u64 c7] := ⟨_, rfl⟩
  have q4d : w1.drew.heap[A3]? = some (.cells #[.int .u64 l0, .int .u64 l1, .int .u64 l2, .int .u64 l3, .int .u64 l4, .int .u64 l5, .int .u64 l6, .int .u64 l7] 59) := q4
  have hcp : (Builtin.copy_ #[126, 126] 3 #[.slice (some ⟨A3, 0, none⟩) 8 8, .slice (some ⟨R, 0, none⟩) 8 9]).run Tryz.prog w1.drew = .ok (.int .i64 8) Wg := by
    rw [hWg]
    exact run_copy_row (P := Tryz.prog) w1.drew 126 126 3 22 A3 0 8 8 ⟨R, 0, none⟩ 8 9 #[.int .u64 l0, .int .u64 l1, .int .u64 l2, .int .u64 l3, .int .u64 l4, .int .u64 l5, .int .u64 l6, .int .u64 l7] 59 [.int .u64 c0, .int .u64 c1, .int .u64 c2, .int .u64 c3, .int .u64 c4, .int .u64 c5, .int .u64 c6, .int .u64 c7] Tryz.underlying126 (by kernel_rfl) q4d rfl (fun j v hj => by
      rw [Addr.add_mid, Nat.zero_add]
      show w1.cell? ⟨R, j, none⟩ = some v
      have hlt := (List.getElem?_eq_some_iff.1 hj).1
      rw [cellOf z2, List.getElem?_toArray, ← hj]
      exact List.getElem?_append_left (l₁ := [.int .u64 c0, .int .u64 c1, .int .u64 c2, .int .u64 c3, .int .u64 c4, .int .u64 c5, .int .u64 c6, .int .u64 c7]) (l₂ := [.int .u64 c8]) hlt) (show 0 + 8 ≤ 8 by decide) (fun v hv => by simp only [List.mem_cons, List.not_mem_nil, or_false] at hv; rcases hv with rfl | rfl | rfl | rfl | rfl | rfl | rfl | rfl <;> rfl)
  have q4' : Wg.heap[A3]? = some (.cells #[.int .u64 c0, .int .u64 c1, .int .u64 c2, .int .u64 c3, .int .u64 c4, .int .u64 c5, .int .u64 c6, .int .u64 c7] 59) := by rw [hWg]; exact setRow_heap _ _ _ _ _ _ q4d
  have q3' : Wg.heap[A2]? = some (.cells #[.int .u64 a0, .int .u64 a1, .int .u64 a2, .int .u64 a3, .int .u64 a4, .int .u64 a5, .int .u64 a6, .int .u64 a7] 59) := by rw [hWg, setRow_other _ _ _ _ (by omega)]; exact q3
  have bg : Below w.heap.size w Wg := by rw [hWg]; exact below_setRow b1.drew (by omega) _
  clear hWg q4d q3 q4 z2 b1 hw1
  go_region_with (fail)
  have hwg : A3 < Wg.heap.size := (Array.getElem?_eq_some_iff.1 q4').1
  have hres : ∀ xs : List Int, xs.length = 8 → wgood xs → wval xs = wval (([c0, c1, c2, c3, c4, c5, c6, c7] : List Int).drop 0) / (2 : Int) ^ p → QuotR (wval [m0, m1, m2, m3, m4, m5, m6, m7]) (wval [n0, n1, n2, n3, n4, n5, n6, n7]) (.tuple #[.agg #[.int .u64 a0, .int .u64 a1, .int .u64 a2, .int .u64 a3, .int .u64 a4, .int .u64 a5, .int .u64 a6, .int .u64 a7], .agg (xs.map (Value.int .u64)).toArray]) := fun xs h1 h2 h3 => ⟨[a0, a1, a2, a3, a4, a5, a6, a7], xs, rfl, hqg, h1, h2, g1, h3.trans g2, rfl⟩
  have RC := fun W => right_c (w := W) (W := 0) (p := p) (by omega) hp63 (N := p) (by omega) g4
  have y_ := fun W (hb : Below Wg.drew.heap.size Wg.drew W) => cells8_of ((hb.block A2 (show A2 < Wg.heap.size by omega)).trans q3')
  have x_ := fun W (hb : Below Wg.drew.heap.size Wg.drew W) => cells8_of ((hb.block A3 hwg).trans q4')
  have z_ : ∀ W, Below Wg.drew.heap.size Wg.drew W → A3 < W.heap.size := fun W hb => Nat.lt_of_lt_of_le hwg hb.size
  have fy_ := fun W (hb : Below Wg.drew.heap.size Wg.drew W) (j : Nat) => frozenOf (j := j) ((hb.block A2 (show A2 < Wg.heap.size by omega)).trans q3')
  have fx_ := fun W (hb : Below Wg.drew.heap.size Wg.drew W) (j : Nat) => frozenOf (j := j) ((hb.block A3 hwg).trans q4')
  obtain ⟨y0, y1, y2, y3, y4, y5, y6, y7⟩ := cells8_of q3'
  obtain ⟨x0, x1, x2, x3, x4, x5, x6, x7⟩ := cells8_of q4'
  have hfin : ∀ W (v0 v1 v2 v3 v4 v5 v6 v7 : Value), Below Wg.drew.heap.size Wg.drew W → Below w.heap.size w ((((((((((((((((W.setCell ⟨A2, 0, none⟩ (.int .u64 a0)).setCell ⟨A2, 1, none⟩ (.int .u64 a1)).setCell ⟨A2, 2, none⟩ (.int .u64 a2)).setCell ⟨A2, 3, none⟩ (.int .u64 a3)).setCell ⟨A2, 4, none⟩ (.int .u64 a4)).setCell ⟨A2, 5, none⟩ (.int .u64 a5)).setCell ⟨A2, 6, none⟩ (.int .u64 a6)).setCell ⟨A2, 7, none⟩ (.int .u64 a7)).setCell ⟨A3, 0, none⟩ v0).setCell ⟨A3, 1, none⟩ v1).setCell ⟨A3, 2, none⟩ v2).setCell ⟨A3, 3, none⟩ v3).setCell ⟨A3, 4, none⟩ v4).setCell ⟨A3, 5, none⟩ v5).setCell ⟨A3, 6, none⟩ v6).setCell ⟨A3, 7, none⟩ v7) := fun W v0 v1 v2 v3 v4 v5 v6 v7 hb => below_set8 (below_set8 (bg.drew.trans (hb.mono bg.size)) (by omega) _ _ _ _ _ _ _ _) (by omega) _ _ _ _ _ _ _ _
  clear q3' q4' hcp g1 g2 g3 g4 hqg f1 f2 f3 f4 f5 f6 hms hns hmL dg lg
  go_wp2
  go_region_with (first | (go_at_call 78; (with_reducible refine (RC _).mono ?_); rintro e W10 ⟨r10, rfl, ⟨xs, xl, xg, xv, rfl⟩, hb10⟩; have hres1 := hres xs xl xg xv; obtain ⟨b0, b1, b2, b3, b4, b5, b6, b7, rfl⟩ := list8i xl; obtain ⟨y0, y1, y2, y3, y4, y5, y6, y7⟩ := y_ _ hb10; obtain ⟨x0, x1, x2, x3, x4, x5, x6, x7⟩ := x_ _ hb10; have fy := fy_ _ hb10; have fx := fx_ _ hb10; have hfin1 := fun u0 u1 u2 u3 u4 u5 u6 u7 => hfin _ u0 u1 u2 u3 u4 u5 u6 u7 hb10; have z3 := z_ _ hb10; have z2 := Nat.lt_trans o3 z3; clear xl xg xv))
  all_goals
    have hn1 : A2 ≠ A3 := by omega
    have hn2 : A3 ≠ A2 := by omega
    go_wp2
    exact bodyPost_ret (v := .tuple #[.agg #[.int .u64 a0, .int .u64 a1, .int .u64 a2, .int .u64 a3, .int .u64 a4, .int .u64 a5, .int .u64 a6, .int .u64 a7], .agg #[.int .u64 b0, .int .u64 b1, .int .u64 b2, .int .u64 b3, .int .u64 b4, .int .u64 b5, .int .u64 b6, .int .u64 b7]]) (by simp [results, Tryz.results70, go_sem, y0, y1, y2, y3, y4, y5, y6, y7, x0, x1, x2, x3, x4, x5, x6, x7, z2, z3, hn1, hn2]) rfl ⟨_, rfl, hres1, hfin1 _ _ _ _ _ _ _ _⟩
#print axioms divide_c
end Go.Proofs.YtaafimabgcnbaabGreatDoor
