/-
  Contracts of the reference: Integer, Int.
-/
import Derived.Test.YtedhjlkidcojhaaGreatMN
set_option linter.all false
namespace Go.Proofs.YtedhjlkidcojhaaGreat
open Go Go.RowKit Go.Big
attribute [local instance] noAv
theorem small_i64 {n : Int} (h0 : -9223372036854775808 ≤ n) (h1 : n ≤ 9223372036854775807) : small n := small_fit (fit_i64 h0 h1)
theorem two_cells {w W : World} {x1 x2 : Value} {t : TypeId} (hb : Below (w.heap.size + 1) (w.alloc (.cells #[x1, x2] t)) W) : W.cell? ⟨w.heap.size, 0, none⟩ = some x1 ∧ W.cell? ⟨w.heap.size, 1, none⟩ = some x2 := by
  have k := (hb.block w.heap.size (by omega)).trans (MapKept.heap_alloc w (.cells #[x1, x2] t)).1
  exact ⟨(cellOf k).trans rfl, (cellOf k).trans rfl⟩
def intR (z : Int) : Value := if -9223372036854775808 ≤ z ∧ z ≤ 9223372036854775807 then .tuple #[.int .i64 z, .int .i64 0] else .tuple #[.int .i64 0, .int .i64 6]
set_option maxHeartbeats 800000 in
set_option maxRecDepth 100000 in
theorem integer_low {w : World} {u : Value} {z : Int} (h : LongV w u z) (hs : small z) (hz : z < -9223372036854775808) : Calls Tryz.prog 46 #[u] w (Gets (fun _ r => r = intR z) w) := by
  have h' := h
  obtain ⟨b, s, xs, rfl, r1, -⟩ := h'
  obtain ⟨a, c, rfl, hc⟩ := r1.len
  have hr : intR z = .tuple #[.int .i64 0, .int .i64 6] := by unfold intR; rw [if_neg (by omega)]
  have ho : ordI z (-9223372036854775808) = -1 := by unfold ordI; rw [if_pos hz]
  have bel := fun o1 : Obj => (Below.refl (w.heap.size + 1) (w.alloc o1)).drew
  go_enter Tryz.func46, Tryz.ntmps46
  go_wp2
  have t1 := two_cells (bel (.cells #[.bool b, .slice a xs.length c] 64))
  go_region_with (first | (go_at_call 42; ((with_reducible refine (long1_0 _ (by omega) (by omega)).mono ?_)); rintro e w1 ⟨d, rfl, hd, hb⟩; have bel1 := next1 (bel _) hb; obtain ⟨q1, q2⟩ := two_cells bel1) | (go_at_call 48; ((with_reducible refine (order_l (h.below (below1 bel1)) hd hs (small_i64 (by omega) (by omega))).mono ?_)); rintro e w2 ⟨r, rfl, hrr, hb2⟩; rw [ho] at hrr; subst hrr; have bel2 := next1 bel1 hb2; obtain ⟨q3, q4⟩ := two_cells bel2))
  all_goals
    have hB := below1 bel2
    clear h hd ho bel
    go_wp2
    go_ret2
    exact ⟨_, rfl, hr.symm, hB⟩
set_option maxHeartbeats 1600000 in
set_option maxRecDepth 100000 in
theorem integer_high {w : World} {u : Value} {z : Int} (h : LongV w u z) (hs : small z) (hz : 9223372036854775807 < z) : Calls Tryz.prog 46 #[u] w (Gets (fun _ r => r = intR z) w) := by
  have h' := h
  obtain ⟨b, s, xs, rfl, r1, -⟩ := h'
  obtain ⟨a, c, rfl, hc⟩ := r1.len
  have hr : intR z = .tuple #[.int .i64 0, .int .i64 6] := by unfold intR; rw [if_neg (by omega)]
  have ho : ordI z (-9223372036854775808) = 1 := by unfold ordI; rw [if_neg (by omega), if_pos (by omega)]
  have ho2 : ordI z 9223372036854775807 = 1 := by unfold ordI; rw [if_neg (by omega), if_pos (by omega)]
  have bel := fun o1 : Obj => (Below.refl (w.heap.size + 1) (w.alloc o1)).drew
  go_enter Tryz.func46, Tryz.ntmps46
  go_wp2
  have t1 := two_cells (bel (.cells #[.bool b, .slice a xs.length c] 64))
  go_region_with (first | (go_at_call 42; ((with_reducible refine (long1_0 _ (by omega) (by omega)).mono ?_)); rintro e w3 ⟨d2, rfl, hd2, hb3⟩; have bel3 := next1 bel2 hb3; obtain ⟨q5, q6⟩ := two_cells bel3) | (go_at_call 42; ((with_reducible refine (long1_0 _ (by omega) (by omega)).mono ?_)); rintro e w1 ⟨d, rfl, hd, hb⟩; have bel1 := next1 (bel _) hb; obtain ⟨q1, q2⟩ := two_cells bel1) | (go_at_call 48; ((with_reducible refine (order_l (h.below (below1 bel3)) hd2 hs (small_i64 (by omega) (by omega))).mono ?_)); rintro e w4 ⟨r2, rfl, hrr2, hb4⟩; rw [ho2] at hrr2; subst hrr2; have bel4 := next1 bel3 hb4; obtain ⟨q7, q8⟩ := two_cells bel4) | (go_at_call 48; ((with_reducible refine (order_l (h.below (below1 bel1)) hd hs (small_i64 (by omega) (by omega))).mono ?_)); rintro e w2 ⟨r, rfl, hrr, hb2⟩; rw [ho] at hrr; subst hrr; have bel2 := next1 bel1 hb2; obtain ⟨q3, q4⟩ := two_cells bel2))
  all_goals
    have hB := below1 bel4
    clear h hd hd2 ho ho2 bel
    go_wp2
    go_ret2
    exact ⟨_, rfl, hr.symm, hB⟩
end Go.Proofs.YtedhjlkidcojhaaGreat
