/-
  Contracts of the reference: Integer, in range.
  Contracts of the reference: Int, Small.
-/
import Derived.Test.YtedhjlkidcojhaaGreatMO
set_option linter.all false
namespace Go.Proofs.YtedhjlkidcojhaaGreat
open Go Go.RowKit Go.Big
attribute [local instance] noAv
theorem nonneg_test {p : Int} (h : ¬ p < 0) : decide (p < 0) = false := by simpa using h
theorem nonpos_test {p : Int} (h : ¬ 0 < p) : decide (0 < p) = false := by simpa using h
theorem ord_low {z c : Int} (h : c ≤ z) : ∃ p, ordI z c = p ∧ decide (p < 0) = false := ⟨_, rfl, nonneg_test (by unfold ordI; rw [if_neg (by omega)]; split <;> omega)⟩
theorem ord_high {z c : Int} (h : z ≤ c) : ∃ p, ordI z c = p ∧ decide (0 < p) = false := ⟨_, rfl, nonpos_test (by unfold ordI; split <;> (try split) <;> omega)⟩
theorem wrap_neg {x : Int} (h0 : 0 ≤ x) (h1 : x ≤ 9223372036854775808) : wrap64 (IntKind.u64.wrap (-x)) = - x := by
  rw [IntKind.wrap_u64]; unfold wrap64; omega
set_option maxHeartbeats 1600000 in
set_option maxRecDepth 100000 in
theorem integer_one {w : World} {b : Bool} {s : Value} {x z : Int} (r1 : RowK .i64 w s [x]) (h : LongV w (.agg #[.bool b, s]) z) (hs : small z) (x0 : 0 ≤ x) (x1 : x < 4294967296) (hz : z = sgz b x) : Calls Tryz.prog 46 #[.agg #[.bool b, s]] w (Gets (fun _ r => r = intR z) w) := by
  have hr : intR z = .tuple #[.int .i64 z, .int .i64 0] := by unfold intR; cases b <;> (first | rw [sgz_t] at hz | rw [sgz_f] at hz) <;> rw [if_pos (by omega)]
  obtain ⟨a, c, rfl, hc⟩ := r1.len
  obtain ⟨p1, ho, ho'⟩ := ord_low (z := z) (c := -9223372036854775808) (by cases b <;> (first | rw [sgz_t] at hz | rw [sgz_f] at hz) <;> omega)
  obtain ⟨p2, ho2, ho2'⟩ := ord_high (z := z) (c := 9223372036854775807) (by cases b <;> (first | rw [sgz_t] at hz | rw [sgz_f] at hz) <;> omega)
  have bel := fun o1 : Obj => (Below.refl (w.heap.size + 1) (w.alloc o1)).drew
  obtain ⟨b', o', rfl, hb', hc1⟩ := r1.cell (j := 0) (by simp)
  have hl : [x].length = 1 := rfl
  rw [hl] at h hc r1 ⊢
  go_enter Tryz.func46, Tryz.ntmps46
  go_wp2
  have t1 := two_cells (bel (.cells #[.bool b, .slice (some ⟨b', o', none⟩) 1 c] 64))
  go_region_with (first | (go_at_call 42; ((with_reducible refine (long1_0 _ (by omega) (by omega)).mono ?_)); rintro e w3 ⟨d2, rfl, hd2, hb3⟩; have bel3 := next1 bel2 hb3; obtain ⟨q5, q6⟩ := two_cells bel3) | (go_at_call 42; ((with_reducible refine (long1_0 _ (by omega) (by omega)).mono ?_)); rintro e w1 ⟨d, rfl, hd, hb⟩; have bel1 := next1 (bel _) hb; obtain ⟨q1, q2⟩ := two_cells bel1) | (go_at_call 48; ((with_reducible refine (order_l (h.below (below1 bel3)) hd2 hs (small_i64 (by omega) (by omega))).mono ?_)); rintro e w4 ⟨r2, rfl, hrr2, hb4⟩; rw [ho2] at hrr2; subst hrr2; have bel4 := next1 bel3 hb4; obtain ⟨q7, q8⟩ := two_cells bel4) | (go_at_call 48; ((with_reducible refine (order_l (h.below (below1 bel1)) hd hs (small_i64 (by omega) (by omega))).mono ?_)); rintro e w2 ⟨r, rfl, hrr, hb2⟩; rw [ho] at hrr; subst hrr; have bel2 := next1 bel1 hb2; obtain ⟨q3, q4⟩ := two_cells bel2))
  all_goals
    have hB := below1 bel4
    have hx := (hB.cell (p := ⟨b', o' + 0, none⟩) hb').trans hc1
    clear h hd hd2 ho ho2 bel hs
    simp only [Nat.add_zero, List.getD_cons_zero] at hx
    cases b with
    | false =>
      rw [sgz_f] at hz
      subst hz
      go_wp2
      refine wp_loop_rounds 2 ?_
      rw [rounds_succ]
      go_wp2
      rw [rounds_succ]
      go_wp2
      go_ret2
      exact ⟨_, rfl, hr.symm, hB⟩
    | true =>
      rw [sgz_t] at hz
      subst hz
      go_wp2
      refine wp_loop_rounds 2 ?_
      rw [rounds_succ]
      go_wp2
      rw [rounds_succ]
      go_wp2
      go_ret2
      exact ⟨_, rfl, by rw [hr]; show Value.tuple #[.int .i64 (wrap64 (IntKind.u64.wrap (-x))), .int .i64 0] = _; rw [wrap_neg (by omega) (by omega)], hB⟩
set_option maxHeartbeats 1600000 in
set_option maxRecDepth 100000 in
theorem integer_two {w : World} {b : Bool} {s : Value} {x y z : Int} (r1 : RowK .i64 w s [x, y]) (h : LongV w (.agg #[.bool b, s]) z) (hs : small z) (x0 : 0 ≤ x) (x1 : x < 4294967296) (y0 : 0 ≤ y) (y1 : y < 4294967296) (hz : z = sgz b (y * 4294967296 + x)) (hf : -9223372036854775808 ≤ z ∧ z ≤ 9223372036854775807) : Calls Tryz.prog 46 #[.agg #[.bool b, s]] w (Gets (fun _ r => r = intR z) w) := by
  have hr : intR z = .tuple #[.int .i64 z, .int .i64 0] := by unfold intR; rw [if_pos hf]
  obtain ⟨a, c, rfl, hc⟩ := r1.len
  obtain ⟨p1, ho, ho'⟩ := ord_low (z := z) (c := -9223372036854775808) (by omega)
  obtain ⟨p2, ho2, ho2'⟩ := ord_high (z := z) (c := 9223372036854775807) (by omega)
  have bel := fun o1 : Obj => (Below.refl (w.heap.size + 1) (w.alloc o1)).drew
  obtain ⟨b', o', rfl, hb', hc1⟩ := r1.cell (j := 0) (by simp)
  obtain ⟨b2, o2, hbo, _, hc2⟩ := r1.cell (j := 1) (by simp)
  injection hbo with hbo
  injection hbo with h5 h6
  subst h5; subst h6
  have hl : [x, y].length = 2 := rfl
  rw [hl] at h hc r1 ⊢
  go_enter Tryz.func46, Tryz.ntmps46
  go_wp2
  have t1 := two_cells (bel (.cells #[.bool b, .slice (some ⟨b', o', none⟩) 2 c] 64))
  go_region_with (first | (go_at_call 42; ((with_reducible refine (long1_0 _ (by omega) (by omega)).mono ?_)); rintro e w3 ⟨d2, rfl, hd2, hb3⟩; have bel3 := next1 bel2 hb3; obtain ⟨q5, q6⟩ := two_cells bel3) | (go_at_call 42; ((with_reducible refine (long1_0 _ (by omega) (by omega)).mono ?_)); rintro e w1 ⟨d, rfl, hd, hb⟩; have bel1 := next1 (bel _) hb; obtain ⟨q1, q2⟩ := two_cells bel1) | (go_at_call 48; ((with_reducible refine (order_l (h.below (below1 bel3)) hd2 hs (small_i64 (by omega) (by omega))).mono ?_)); rintro e w4 ⟨r2, rfl, hrr2, hb4⟩; rw [ho2] at hrr2; subst hrr2; have bel4 := next1 bel3 hb4; obtain ⟨q7, q8⟩ := two_cells bel4) | (go_at_call 48; ((with_reducible refine (order_l (h.below (below1 bel1)) hd hs (small_i64 (by omega) (by omega))).mono ?_)); rintro e w2 ⟨r, rfl, hrr, hb2⟩; rw [ho] at hrr; subst hrr; have bel2 := next1 bel1 hb2; obtain ⟨q3, q4⟩ := two_cells bel2))
  all_goals
    have hB := below1 bel4
    have hx := (hB.cell (p := ⟨b', o' + 0, none⟩) hb').trans hc1
    have hy := (hB.cell (p := ⟨b', o' + 1, none⟩) hb').trans hc2
    clear h hd hd2 ho ho2 bel hs
    simp only [Nat.add_zero, List.getD_cons_zero, List.getD_cons_succ] at hx hy
    cases b with
    | false =>
      rw [sgz_f] at hz
      subst hz
      go_wp2
      refine wp_loop_rounds 3 ?_
      rw [rounds_succ]
      go_wp2
      rw [rounds_succ]
      go_wp2
      rw [rounds_succ]
      go_wp2
      go_ret2
      exact ⟨_, rfl, hr.symm, hB⟩
    | true =>
      rw [sgz_t] at hz
      subst hz
      go_wp2
      refine wp_loop_rounds 3 ?_
      rw [rounds_succ]
      go_wp2
      rw [rounds_succ]
      go_wp2
      rw [rounds_succ]
      go_wp2
      go_ret2
      exact ⟨_, rfl, by rw [hr]; show Value.tuple #[.int .i64 (wrap64 (IntKind.u64.wrap (-(y * 4294967296 + x)))), .int .i64 0] = _; rw [wrap_neg (by omega) (by omega)], hB⟩
set_option maxHeartbeats 1600000 in
set_option maxRecDepth 100000 in
theorem integer_zero {w : World} {s : Value} (r1 : RowK .i64 w s []) (h : LongV w (.agg #[.bool false, s]) 0) : Calls Tryz.prog 46 #[.agg #[.bool false, s]] w (Gets (fun _ r => r = intR 0) w) := by
  have hr : intR 0 = .tuple #[.int .i64 0, .int .i64 0] := by unfold intR; rw [if_pos (by omega)]
  obtain ⟨a, c, rfl, hc⟩ := r1.len
  obtain ⟨p1, ho, ho'⟩ := ord_low (z := 0) (c := -9223372036854775808) (by omega)
  obtain ⟨p2, ho2, ho2'⟩ := ord_high (z := 0) (c := 9223372036854775807) (by omega)
  have bel := fun o1 : Obj => (Below.refl (w.heap.size + 1) (w.alloc o1)).drew
  have hs := small_zero
  have hl : ([] : List Int).length = 0 := rfl
  rw [hl] at h hc r1 ⊢
  go_enter Tryz.func46, Tryz.ntmps46
  go_wp2
  have t1 := two_cells (bel (.cells #[.bool false, .slice a 0 c] 64))
  go_region_with (first | (go_at_call 42; ((with_reducible refine (long1_0 _ (by omega) (by omega)).mono ?_)); rintro e w3 ⟨d2, rfl, hd2, hb3⟩; have bel3 := next1 bel2 hb3; obtain ⟨q5, q6⟩ := two_cells bel3) | (go_at_call 42; ((with_reducible refine (long1_0 _ (by omega) (by omega)).mono ?_)); rintro e w1 ⟨d, rfl, hd, hb⟩; have bel1 := next1 (bel _) hb; obtain ⟨q1, q2⟩ := two_cells bel1) | (go_at_call 48; ((with_reducible refine (order_l (h.below (below1 bel3)) hd2 hs (small_i64 (by omega) (by omega))).mono ?_)); rintro e w4 ⟨r2, rfl, hrr2, hb4⟩; rw [ho2] at hrr2; subst hrr2; have bel4 := next1 bel3 hb4; obtain ⟨q7, q8⟩ := two_cells bel4) | (go_at_call 48; ((with_reducible refine (order_l (h.below (below1 bel1)) hd hs (small_i64 (by omega) (by omega))).mono ?_)); rintro e w2 ⟨r, rfl, hrr, hb2⟩; rw [ho] at hrr; subst hrr; have bel2 := next1 bel1 hb2; obtain ⟨q3, q4⟩ := two_cells bel2))
  all_goals
    have hB := below1 bel4
    clear h hd hd2 ho ho2 bel hs
    go_wp2
    refine wp_loop_rounds 1 ?_
    rw [rounds_succ]
    go_wp2
    go_ret2
    exact ⟨_, rfl, hr.symm, hB⟩
theorem pw2 : pw 2 = 18446744073709551616 := by decide
theorem integer_c {w : World} {u : Value} {z : Int} (h : LongV w u z) (hs : small z) : Calls Tryz.prog 46 #[u] w (Gets (fun _ r => r = intR z) w) := by
  by_cases h1 : z < -9223372036854775808
  · exact integer_low h hs h1
  by_cases h2 : 9223372036854775807 < z
  · exact integer_high h hs h2
  have hl := h
  obtain ⟨b, s, xs, rfl, r1, g1, n1, z1, e1⟩ := h
  have hlen : xs.length ≤ 2 := by
    rcases Nat.lt_or_ge 2 xs.length with h' | h'
    · have p1 := norm_low g1 n1 (by omega)
      have p2 := pw_mono (show 2 ≤ xs.length - 1 by omega)
      rw [pw2] at p2
      cases b with
      | false => rw [sgz_f] at e1; omega
      | true => rw [sgz_t] at e1; omega
    · exact h'
  match xs, hlen with
  | [], _ =>
    have hz : z = 0 := by rw [e1]; cases b <;> rfl
    have hb : b = false := by cases b with | false => rfl | true => exact absurd (z1 rfl) (Nat.lt_irrefl _)
    subst hz; subst hb
    exact integer_zero r1 hl
  | [x], _ =>
    obtain ⟨p1, _⟩ := good_cons.1 g1
    exact integer_one r1 hl hs p1.1 p1.2 (by rw [e1]; simp only [val]; congr 1; omega)
  | [x, y], _ =>
    obtain ⟨p1, g2⟩ := good_cons.1 g1
    obtain ⟨p2, _⟩ := good_cons.1 g2
    exact integer_two r1 hl hs p1.1 p1.2 p2.1 p2.2 (by rw [e1]; simp only [val]; congr 1; omega) ⟨by omega, by omega⟩
end Go.Proofs.YtedhjlkidcojhaaGreat
namespace Go.Proofs.YtedhjlkidcojhaaGreat
open Go Go.RowKit Go.Big
attribute [local instance] noAv
set_option maxHeartbeats 400000 in
set_option maxRecDepth 100000 in
theorem refInt_c {w : World} {x : Int} (hx : fit x) : Calls Tryz.prog 11 #[W x] w (Gets (fun _ r => r = intR x) w) := by
  obtain ⟨a0, a1, a2, a3, a4, a5, a6, a7, hg, rfl, he⟩ := words_of hx
  rw [he]
  have hs := small_fit hx
  generalize hv : wint [a0, a1, a2, a3, a4, a5, a6, a7] = x at *
  have b0 := fun o1 : Obj => Below.refl (w.heap.size + 1) (w.alloc o1)
  have hin := fun W => in_c (w := W) a0 a1 a2 a3 a4 a5 a6 a7 hg
  rw [hv] at hin
  clear he hv hx
  obtain ⟨m, k, hmk⟩ : ∃ m k, intR x = .tuple #[.int .i64 m, .int .i64 k] := by unfold intR; split <;> exact ⟨_, _, rfl⟩
  have hI : ∀ W d, LongV W d x → Calls Tryz.prog 46 #[d] W (Gets (fun _ r => r = .tuple #[.int .i64 m, .int .i64 k]) W) := fun W d hd => by
    have := integer_c hd hs
    rw [hmk] at this
    exact this
  have hmk' := Lib.hid hmk.symm
  clear hmk
  go_enter Tryz.func11, Tryz.ntmps11
  go_wp2_with fail
  refine (hin _).mono ?_
  rintro e w1 ⟨d, rfl, hd, hb⟩
  have b1 := next1 (b0 _) hb
  go_wp2_with fail
  refine (hI _ _ hd).mono ?_
  rintro e w2 ⟨r, rfl, rfl, hb2⟩
  have b2 := next1 b1 hb2
  have hB := below1 b2
  clear hd hin hI
  go_wp2
  go_ret2
  exact ⟨_, rfl, hmk'.out, hB⟩
/-- What a draft holds. -/
def smallN (b : Bool) (l : Int) : Int := sgz b (l % 1000001)
set_option maxHeartbeats 400000 in
set_option maxRecDepth 100000 in
theorem refSmall_c {w : World} (b : Bool) (s : Value) (l : Int) (l0 : 0 ≤ l) (l1 : l < 4294967296) : Calls Tryz.prog 43 #[.agg #[.bool b, s, .int .u32 l]] w (Gets (fun _ r => r = .int .i64 (smallN b l)) w) := by
  cases b with
  | false =>
    have hr : smallN false l = l % 1000001 := rfl
    rw [hr]
    go_enter Tryz.func43, Tryz.ntmps43
    go_wp2
    go_ret
    exact ⟨_, rfl, rfl, (Below.refl _ _).alloc (Nat.le_refl _) _⟩
  | true =>
    have hr : smallN true l = - (l % 1000001) := rfl
    rw [hr]
    go_enter Tryz.func43, Tryz.ntmps43
    go_wp2
    go_ret
    exact ⟨_, rfl, rfl, (Below.refl _ _).alloc (Nat.le_refl _) _⟩
end Go.Proofs.YtedhjlkidcojhaaGreat
