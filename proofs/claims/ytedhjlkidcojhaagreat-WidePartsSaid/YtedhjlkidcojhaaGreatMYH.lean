/-
  The reference's Div, for every two wide integers.
-/
import Derived.Test.YtedhjlkidcojhaaGreatMYG
set_option linter.all false
namespace Go.Proofs.YtedhjlkidcojhaaGreat
open Go Go.Rx Go.RowKit Go.Big
attribute [local instance] noAv
theorem eq8_nil (z0 z1 z2 z3 z4 z5 z6 z7 : Int) (w : World) : (Op.equalIn 10000 24 (.agg #[Value.int .u64 z0, Value.int .u64 z1, Value.int .u64 z2, Value.int .u64 z3, Value.int .u64 z4, Value.int .u64 z5, Value.int .u64 z6, Value.int .u64 z7]) (.agg #[Value.int .u64 0, Value.int .u64 0, Value.int .u64 0, Value.int .u64 0, Value.int .u64 0, Value.int .u64 0, Value.int .u64 0, Value.int .u64 0])).run Tryz.prog w = .ok ((z0 == 0) && ((z1 == 0) && ((z2 == 0) && ((z3 == 0) && ((z4 == 0) && ((z5 == 0) && ((z6 == 0) && ((z7 == 0) && true)))))))) w := by
  have h : aggEq Tryz.prog 24 ([z0, z1, z2, z3, z4, z5, z6, z7].map fun a => C.v (.int .u64 a)) (([0, 0, 0, 0, 0, 0, 0, 0] : List Int).map fun a => C.v (.int .u64 a)) = some ((z0 == 0) && ((z1 == 0) && ((z2 == 0) && ((z3 == 0) && ((z4 == 0) && ((z5 == 0) && ((z6 == 0) && ((z7 == 0) && true)))))))) := by kernel_rfl
  exact (aggEq_sound (ρ := noLoc (lets0 fun _ => 0)) h (all2_v _) (all2_v _) w).1
theorem eq8_no {z0 z1 z2 z3 z4 z5 z6 z7 : Int} (h : wint [z0, z1, z2, z3, z4, z5, z6, z7] ≠ 0) (w : World) : (Op.equalIn 10000 24 (.agg #[Value.int .u64 z0, Value.int .u64 z1, Value.int .u64 z2, Value.int .u64 z3, Value.int .u64 z4, Value.int .u64 z5, Value.int .u64 z6, Value.int .u64 z7]) (.agg #[Value.int .u64 0, Value.int .u64 0, Value.int .u64 0, Value.int .u64 0, Value.int .u64 0, Value.int .u64 0, Value.int .u64 0, Value.int .u64 0])).run Tryz.prog w = .ok false w := by
  rw [eq8_nil]
  congr 1
  apply Bool.eq_false_iff.2
  intro hb
  simp only [Bool.and_eq_true, beq_iff_eq, and_true] at hb
  obtain ⟨rfl, rfl, rfl, rfl, rfl, rfl, rfl, rfl⟩ := hb
  exact h (by decide)
def divV (x y : Int) : Value := if y = 0 then .tuple #[W 0, W 0, .int .i64 7] else if fit (x / y) then .tuple #[W (x / y), W (x % y), .int .i64 0] else .tuple #[W 0, W 0, .int .i64 6]
theorem small_ediv {x : Int} (y : Int) (hx : fit x) : small (x / y) := by
  have h1 := small_fit hx
  have h2 := Int.natAbs_ediv_le_natAbs x y
  unfold small at *
  omega
theorem fit_emod {y : Int} (x : Int) (hy : fit y) (h0 : y ≠ 0) : fit (x % y) := by
  have r0 := Int.emod_nonneg x h0
  have r1 := Int.emod_lt x h0
  unfold fit P511 at *
  omega
theorem drew_heap (X : World) (C : Nat) : X.drew.heap[C]? = X.heap[C]? := rfl
theorem set8_other {W : World} {B C : Nat} (h : C ≠ B) (u0 u1 u2 u3 u4 u5 u6 u7 : Value) : ((((((((W.setCell ⟨B, 0, none⟩ u0).setCell ⟨B, 1, none⟩ u1).setCell ⟨B, 2, none⟩ u2).setCell ⟨B, 3, none⟩ u3).setCell ⟨B, 4, none⟩ u4).setCell ⟨B, 5, none⟩ u5).setCell ⟨B, 6, none⟩ u6).setCell ⟨B, 7, none⟩ u7).heap[C]? = W.heap[C]? := by
  rw [Go.Deep.blk_setCell_other _ _ _ _ h, Go.Deep.blk_setCell_other _ _ _ _ h, Go.Deep.blk_setCell_other _ _ _ _ h, Go.Deep.blk_setCell_other _ _ _ _ h, Go.Deep.blk_setCell_other _ _ _ _ h, Go.Deep.blk_setCell_other _ _ _ _ h, Go.Deep.blk_setCell_other _ _ _ _ h, Go.Deep.blk_setCell_other _ _ _ _ h]
theorem set8_other_d {W : World} {B C : Nat} (h : C ≠ B) (u0 u1 u2 u3 u4 u5 u6 u7 : Value) : ((((((((W.setCell ⟨B, 0, none⟩ u0).setCell ⟨B, 1, none⟩ u1).setCell ⟨B, 2, none⟩ u2).setCell ⟨B, 3, none⟩ u3).setCell ⟨B, 4, none⟩ u4).setCell ⟨B, 5, none⟩ u5).setCell ⟨B, 6, none⟩ u6).setCell ⟨B, 7, none⟩ u7).drew.heap[C]? = W.heap[C]? := (drew_heap _ _).trans <| set8_other h u0 u1 u2 u3 u4 u5 u6 u7
theorem W0_eight : W 0 = .agg #[.int .u64 0, .int .u64 0, .int .u64 0, .int .u64 0, .int .u64 0, .int .u64 0, .int .u64 0, .int .u64 0] := by kernel_rfl
set_option maxHeartbeats 4000000 in
set_option maxRecDepth 100000 in
theorem refDiv_zero {w : World} {x : Int} (hx : fit x) : Calls Tryz.prog 27 #[W x, W 0] w (Gets (fun _ r => r = .tuple #[W 0, W 0, .int .i64 7]) w) := by
  obtain ⟨a0, a1, a2, a3, a4, a5, a6, a7, -, -, he⟩ := words_of hx
  rw [he, W0_eight]
  have E := eq8_same 0 0 0 0 0 0 0 0
  obtain ⟨k1, k2, k3, k4⟩ := heap4 w (.cells #[.int .u64 a0, .int .u64 a1, .int .u64 a2, .int .u64 a3, .int .u64 a4, .int .u64 a5, .int .u64 a6, .int .u64 a7] 24) (.cells #[.int .u64 0, .int .u64 0, .int .u64 0, .int .u64 0, .int .u64 0, .int .u64 0, .int .u64 0, .int .u64 0] 24) (.cells #[.int .u64 0, .int .u64 0, .int .u64 0, .int .u64 0, .int .u64 0, .int .u64 0, .int .u64 0, .int .u64 0] 24) (.cells #[.int .u64 0, .int .u64 0, .int .u64 0, .int .u64 0, .int .u64 0, .int .u64 0, .int .u64 0, .int .u64 0] 24)
  go_enter Tryz.func27, Tryz.ntmps27
  go_wp2
  exact bodyPost_ret (v := .tuple #[.agg #[.int .u64 0, .int .u64 0, .int .u64 0, .int .u64 0, .int .u64 0, .int .u64 0, .int .u64 0, .int .u64 0], .agg #[.int .u64 0, .int .u64 0, .int .u64 0, .int .u64 0, .int .u64 0, .int .u64 0, .int .u64 0, .int .u64 0], .int .i64 7]) (by simp [results, Tryz.results27, go_sem]) rfl ⟨_, rfl, rfl, below_al (below_al (below_al (below_al (Below.refl _ _) _) _) _) _⟩
set_option maxHeartbeats 8000000 in
set_option maxRecDepth 100000 in
theorem refDiv_main {w : World} {x y : Int} (hx : fit x) (hy : fit y) (h0 : y ≠ 0) : Calls Tryz.prog 27 #[W x, W y] w (Gets (fun _ r => r = if fit (x / y) then .tuple #[W (x / y), W (x % y), .int .i64 0] else .tuple #[W 0, W 0, .int .i64 6]) w) := by
  obtain ⟨RV, hRV⟩ : ∃ RV, RV = if fit (x / y) then Value.tuple #[W (x / y), W (x % y), .int .i64 0] else .tuple #[W 0, W 0, .int .i64 6] := ⟨_, rfl⟩
  rw [← hRV]
  obtain ⟨a0, a1, a2, a3, a4, a5, a6, a7, hg, hwx, he⟩ := words_of hx
  obtain ⟨c0, c1, c2, c3, c4, c5, c6, c7, hg', hwy, he'⟩ := words_of hy
  rw [he, he']
  have E := eq8_no (show wint [c0, c1, c2, c3, c4, c5, c6, c7] ≠ 0 by rw [hwy]; exact h0)
  have hs := small_fit hx
  have hs' := small_fit hy
  have hzq := small_ediv y hx
  have hfr := fit_emod x hy h0
  have hin := fun W => in_c (w := W) a0 a1 a2 a3 a4 a5 a6 a7 hg
  have hin' := fun W => in_c (w := W) c0 c1 c2 c3 c4 c5 c6 c7 hg'
  rw [hwx] at hin
  rw [hwy] at hin'
  clear he he' hwx hwy hg hg'
  obtain ⟨k1, k2, k3, k4⟩ := heap4 w (.cells #[.int .u64 a0, .int .u64 a1, .int .u64 a2, .int .u64 a3, .int .u64 a4, .int .u64 a5, .int .u64 a6, .int .u64 a7] 24) (.cells #[.int .u64 c0, .int .u64 c1, .int .u64 c2, .int .u64 c3, .int .u64 c4, .int .u64 c5, .int .u64 c6, .int .u64 c7] 24) (.cells #[.int .u64 0, .int .u64 0, .int .u64 0, .int .u64 0, .int .u64 0, .int .u64 0, .int .u64 0, .int .u64 0] 24) (.cells #[.int .u64 0, .int .u64 0, .int .u64 0, .int .u64 0, .int .u64 0, .int .u64 0, .int .u64 0, .int .u64 0] 24)
  have bw : Below w.heap.size w ((((w.alloc (.cells #[.int .u64 a0, .int .u64 a1, .int .u64 a2, .int .u64 a3, .int .u64 a4, .int .u64 a5, .int .u64 a6, .int .u64 a7] 24)).alloc (.cells #[.int .u64 c0, .int .u64 c1, .int .u64 c2, .int .u64 c3, .int .u64 c4, .int .u64 c5, .int .u64 c6, .int .u64 c7] 24)).alloc (.cells #[.int .u64 0, .int .u64 0, .int .u64 0, .int .u64 0, .int .u64 0, .int .u64 0, .int .u64 0, .int .u64 0] 24)).alloc (.cells #[.int .u64 0, .int .u64 0, .int .u64 0, .int .u64 0, .int .u64 0, .int .u64 0, .int .u64 0, .int .u64 0] 24)) := below_al (below_al (below_al (below_al (Below.refl _ _) _) _) _) _
  have hbs : ((((w.alloc (.cells #[.int .u64 a0, .int .u64 a1, .int .u64 a2, .int .u64 a3, .int .u64 a4, .int .u64 a5, .int .u64 a6, .int .u64 a7] 24)).alloc (.cells #[.int .u64 c0, .int .u64 c1, .int .u64 c2, .int .u64 c3, .int .u64 c4, .int .u64 c5, .int .u64 c6, .int .u64 c7] 24)).alloc (.cells #[.int .u64 0, .int .u64 0, .int .u64 0, .int .u64 0, .int .u64 0, .int .u64 0, .int .u64 0, .int .u64 0] 24)).alloc (.cells #[.int .u64 0, .int .u64 0, .int .u64 0, .int .u64 0, .int .u64 0, .int .u64 0, .int .u64 0, .int .u64 0] 24)).heap.size = w.heap.size + 4 := by simp
  go_enter Tryz.func27, Tryz.ntmps27
  go_upto_region 3 with (fail)
  generalize ((((w.alloc (.cells #[.int .u64 a0, .int .u64 a1, .int .u64 a2, .int .u64 a3, .int .u64 a4, .int .u64 a5, .int .u64 a6, .int .u64 a7] 24)).alloc (.cells #[.int .u64 c0, .int .u64 c1, .int .u64 c2, .int .u64 c3, .int .u64 c4, .int .u64 c5, .int .u64 c6, .int .u64 c7] 24)).alloc (.cells #[.int .u64 0, .int .u64 0, .int .u64 0, .int .u64 0, .int .u64 0, .int .u64 0, .int .u64 0, .int .u64 0] 24)).alloc (.cells #[.int .u64 0, .int .u64 0, .int .u64 0, .int .u64 0, .int .u64 0, .int .u64 0, .int .u64 0, .int .u64 0] 24)) = wb at *
  have hS : ∀ W, Below wb.heap.size wb W → W.cell? ⟨w.heap.size, 0, none⟩ = some (.int .u64 a0) ∧ W.cell? ⟨w.heap.size, 1, none⟩ = some (.int .u64 a1) ∧ W.cell? ⟨w.heap.size, 2, none⟩ = some (.int .u64 a2) ∧ W.cell? ⟨w.heap.size, 3, none⟩ = some (.int .u64 a3) ∧ W.cell? ⟨w.heap.size, 4, none⟩ = some (.int .u64 a4) ∧ W.cell? ⟨w.heap.size, 5, none⟩ = some (.int .u64 a5) ∧ W.cell? ⟨w.heap.size, 6, none⟩ = some (.int .u64 a6) ∧ W.cell? ⟨w.heap.size, 7, none⟩ = some (.int .u64 a7) ∧ W.cell? ⟨w.heap.size + 1, 0, none⟩ = some (.int .u64 c0) ∧ W.cell? ⟨w.heap.size + 1, 1, none⟩ = some (.int .u64 c1) ∧ W.cell? ⟨w.heap.size + 1, 2, none⟩ = some (.int .u64 c2) ∧ W.cell? ⟨w.heap.size + 1, 3, none⟩ = some (.int .u64 c3) ∧ W.cell? ⟨w.heap.size + 1, 4, none⟩ = some (.int .u64 c4) ∧ W.cell? ⟨w.heap.size + 1, 5, none⟩ = some (.int .u64 c5) ∧ W.cell? ⟨w.heap.size + 1, 6, none⟩ = some (.int .u64 c6) ∧ W.cell? ⟨w.heap.size + 1, 7, none⟩ = some (.int .u64 c7) := fun W hW => by
    have q1 := (hW.block w.heap.size (by omega)).trans k1
    have q2 := (hW.block (w.heap.size + 1) (by omega)).trans k2
    exact ⟨(cellOf (j := 0) q1).trans rfl, (cellOf (j := 1) q1).trans rfl, (cellOf (j := 2) q1).trans rfl, (cellOf (j := 3) q1).trans rfl, (cellOf (j := 4) q1).trans rfl, (cellOf (j := 5) q1).trans rfl, (cellOf (j := 6) q1).trans rfl, (cellOf (j := 7) q1).trans rfl, (cellOf (j := 0) q2).trans rfl, (cellOf (j := 1) q2).trans rfl, (cellOf (j := 2) q2).trans rfl, (cellOf (j := 3) q2).trans rfl, (cellOf (j := 4) q2).trans rfl, (cellOf (j := 5) q2).trans rfl, (cellOf (j := 6) q2).trans rfl, (cellOf (j := 7) q2).trans rfl⟩
  have y1 : Below wb.heap.size wb wb.drew := (Below.refl _ _).drew
  have y1a : ∀ o, Below wb.heap.size wb (wb.alloc o).drew := fun o => (below_al (Below.refl _ _) o).drew
  have y1b : ∀ o o', Below wb.heap.size wb ((wb.alloc o).alloc o').drew := fun o o' => (below_al (below_al (Below.refl _ _) o) o').drew
  have hbs'' := Lib.hid hbs
  clear k1 k2 hbs
  go_cut [7, 8] from 18 to 25 (fun s8 s9 wx => Two3 wb wx s8 s9 (x / y) (x % y))
  case first =>
    clear hzq hfr k3 k4 bw
    go_region_held3 (fun w' => w'.cell? ⟨w.heap.size, 0, none⟩ = some (.int .u64 a0) ∧ w'.cell? ⟨w.heap.size, 1, none⟩ = some (.int .u64 a1) ∧ w'.cell? ⟨w.heap.size, 2, none⟩ = some (.int .u64 a2) ∧ w'.cell? ⟨w.heap.size, 3, none⟩ = some (.int .u64 a3) ∧ w'.cell? ⟨w.heap.size, 4, none⟩ = some (.int .u64 a4) ∧ w'.cell? ⟨w.heap.size, 5, none⟩ = some (.int .u64 a5) ∧ w'.cell? ⟨w.heap.size, 6, none⟩ = some (.int .u64 a6) ∧ w'.cell? ⟨w.heap.size, 7, none⟩ = some (.int .u64 a7) ∧ w'.cell? ⟨w.heap.size + 1, 0, none⟩ = some (.int .u64 c0) ∧ w'.cell? ⟨w.heap.size + 1, 1, none⟩ = some (.int .u64 c1) ∧ w'.cell? ⟨w.heap.size + 1, 2, none⟩ = some (.int .u64 c2) ∧ w'.cell? ⟨w.heap.size + 1, 3, none⟩ = some (.int .u64 c3) ∧ w'.cell? ⟨w.heap.size + 1, 4, none⟩ = some (.int .u64 c4) ∧ w'.cell? ⟨w.heap.size + 1, 5, none⟩ = some (.int .u64 c5) ∧ w'.cell? ⟨w.heap.size + 1, 6, none⟩ = some (.int .u64 c6) ∧ w'.cell? ⟨w.heap.size + 1, 7, none⟩ = some (.int .u64 c7))
      ((refine hS _ ?_; (with_reducible (repeat' (first | exact y1 | exact y1a _ | exact y1b _ _ | exact y2 | exact y3 | exact y4 | refine below_al ?_ _ | refine below_st ?_ ?_ _))); all_goals (first | exact Nat.le_refl _ | exact Nat.le_succ _ | exact y2.size | exact y3.size | exact y4.size | exact Nat.le_succ_of_le y2.size | exact Nat.le_succ_of_le y3.size | exact Nat.le_succ_of_le y4.size)))
      (first | (go_at_call 47; ((with_reducible refine (hin _).mono ?_); rintro e w2 ⟨d1, rfl, h1, hb2⟩; have y2 := next0 (by first | exact y1 | exact y1a _ | exact y1b _ _) hb2; (first | (have m1 := (lay2d hb2).1; have m2 := (lay2d hb2).2) | (have m1 := lay1d hb2) | skip); (try have i1 := lt_of_heap m1); (try have i2 := lt_of_heap m2)))
                | (go_at_call 47; ((with_reducible refine (hin' _).mono ?_); rintro e w3 ⟨d2, rfl, h2, hb3⟩; have y3 := next0 (by first | exact y2 | exact below_al y2 _ | exact below_al (below_al y2 _) _) hb3; (first | (have m3 := (lay2 hb3).1; have m4 := (lay2 hb3).2) | (have m3 := lay1 hb3) | skip); (try have i3 := lt_of_heap m3); (try have i4 := lt_of_heap m4); have hb23 : Below w2.heap.size w2 w3 := next0 (by first | exact Below.refl _ _ | exact below_al (Below.refl _ _) _ | exact below_al (below_al (Below.refl _ _) _) _) hb3; have h1 := h1.below hb23; (try have m1 := carry m1 hb23); (try have m2 := carry m2 hb23); (try have i5 := lt_of_heap m1); (try have i6 := lt_of_heap m2)))
                | (go_at_call 59; ((with_reducible refine (parts_l (h1.below (by first | exact Below.refl _ _ | exact below_al (Below.refl _ _) _ | exact below_al (below_al (Below.refl _ _) _) _)) (h2.below (by first | exact Below.refl _ _ | exact below_al (Below.refl _ _) _ | exact below_al (below_al (Below.refl _ _) _) _)) hs hs' h0).mono ?_); rintro e w4 ⟨v4, rfl, ⟨u2, u3, rfl, L2, L3⟩, hb4⟩; have y4 := next0 (by first | exact y3 | exact below_al y3 _ | exact below_al (below_al y3 _) _) hb4; (first | (have m5 := (lay2 hb4).1; have m6 := (lay2 hb4).2) | (have m5 := lay1 hb4) | skip); have hb34 : Below w3.heap.size w3 w4 := next0 (by first | exact Below.refl _ _ | exact below_al (Below.refl _ _) _ | exact below_al (below_al (Below.refl _ _) _) _) hb4; (try have m1 := carry m1 hb34); (try have m2 := carry m2 hb34); (try have m3 := carry m3 hb34); (try have m4 := carry m4 hb34); (try (have f11 := (cells2 m1).1; have f12 := (cells2 m1).2.1; have f13 := (cells2 m1).2.2.1; have f14 := (cells2 m1).2.2.2)); (try have l1 := lt_of_heap m1); (try (have f21 := (cells2 m2).1; have f22 := (cells2 m2).2.1; have f23 := (cells2 m2).2.2.1; have f24 := (cells2 m2).2.2.2)); (try have l2 := lt_of_heap m2); (try (have f31 := (cells2 m3).1; have f32 := (cells2 m3).2.1; have f33 := (cells2 m3).2.2.1; have f34 := (cells2 m3).2.2.2)); (try have l3 := lt_of_heap m3); (try (have f41 := (cells2 m4).1; have f42 := (cells2 m4).2.1; have f43 := (cells2 m4).2.2.1; have f44 := (cells2 m4).2.2.2)); (try have l4 := lt_of_heap m4); (try (have f51 := (cells2 m5).1; have f52 := (cells2 m5).2.1; have f53 := (cells2 m5).2.2.1; have f54 := (cells2 m5).2.2.2)); (try have l5 := lt_of_heap m5); (try (have f61 := (cells2 m6).1; have f62 := (cells2 m6).2.1; have f63 := (cells2 m6).2.2.1; have f64 := (cells2 m6).2.2.2)); (try have l6 := lt_of_heap m6); obtain ⟨b2, s2, zs2, rfl, hr2, g2', n2', p2', e2'⟩ := L2; obtain ⟨a2, c2, rfl, -⟩ := hr2.len; obtain ⟨b3, s3, zs3, rfl, hr3, g3', n3', p3', e3'⟩ := L3; obtain ⟨a3, c3, rfl, -⟩ := hr3.len)))
    all_goals
      go_wp2
    all_goals
      go_meet
    all_goals
      have L2 : LongV w4 (.agg #[.bool b2, .slice a2 zs2.length c2]) (x / y) := ⟨b2, _, zs2, rfl, hr2, g2', n2', p2', e2'⟩
      have L3 : LongV w4 (.agg #[.bool b3, .slice a3 zs3.length c3]) (x % y) := ⟨b3, _, zs3, rfl, hr3, g3', n3', p3', e3'⟩
      have z1 : wb.heap.size ≤ wb.heap.size := Nat.le_refl _
      have z2 : wb.heap.size ≤ w2.heap.size := y2.size
      have z3 : wb.heap.size ≤ w3.heap.size := y3.size
      clear e2' e3' hS y1 y1a y1b hin hin' E h1 h2
      with_reducible first
        | exact fin_a y4 L2 L3
        | exact fin_a' y4 L2 L3
        | exact fin_b y4 L2 L3 m5 z3
        | exact fin_b y4 L2 L3 m3 z2
        | exact fin_b y4 L2 L3 m1 z1
        | exact fin_b' y4 L2 L3 m5 z3
        | exact fin_b' y4 L2 L3 m3 z2
        | exact fin_b' y4 L2 L3 m1 z1
        | exact fin_c y4 L2 L3 m5 m6 z3 (Nat.le_succ_of_le z3) (by omega)
        | exact fin_c y4 L2 L3 m6 m5 (Nat.le_succ_of_le z3) z3 (by omega)
        | exact fin_c y4 L2 L3 m3 m4 z2 (Nat.le_succ_of_le z2) (by omega)
        | exact fin_c y4 L2 L3 m4 m3 (Nat.le_succ_of_le z2) z2 (by omega)
        | exact fin_c y4 L2 L3 m1 m2 z1 (Nat.le_succ_of_le z1) (by omega)
        | exact fin_c y4 L2 L3 m2 m1 (Nat.le_succ_of_le z1) z1 (by omega)
        | exact fin_c y4 L2 L3 m1 m3 z1 z2 (by omega)
        | exact fin_c y4 L2 L3 m3 m1 z2 z1 (by omega)
        | exact fin_c y4 L2 L3 m1 m5 z1 z3 (by omega)
        | exact fin_c y4 L2 L3 m5 m1 z3 z1 (by omega)
        | exact fin_c y4 L2 L3 m3 m5 z2 z3 (by omega)
        | exact fin_c y4 L2 L3 m5 m3 z3 z2 (by omega)
  case rest =>
    obtain ⟨B8, B9, b2, b3, v2, v3, rfl, rfl, T, LQ, LR⟩ := hcut
    obtain ⟨b2', s2, zs2, e2, hr2, -⟩ := id LQ
    obtain ⟨b3', s3, zs3, e3, hr3, -⟩ := id LR
    obtain ⟨a2, c2, rfl, -⟩ := hr2.len
    obtain ⟨a3, c3, rfl, -⟩ := hr3.len
    obtain ⟨rfl, rfl⟩ : b2 = b2' ∧ v2 = .slice a2 zs2.length c2 := by injection e2 with e2; injection e2 with e2; injection e2 with e4 e5; injection e4 with e4; injection e5 with e5; exact ⟨e4, e5⟩
    obtain ⟨rfl, rfl⟩ : b3 = b3' ∧ v3 = .slice a3 zs3.length c3 := by injection e3 with e3; injection e3 with e3; injection e3 with e4 e5; injection e4 with e4; injection e5 with e5; exact ⟨e4, e5⟩
    have hou := fun U u (hu : LongV U u (x / y)) => out_W hu hzq
    have hou2 := fun U u (hu : LongV U u (x % y)) => out_W hu (small_fit hfr)
    obtain ⟨f1, f2, f3, f4⟩ := cells2 T.k8
    have hlB := lt_of_heap T.k9
    have q8 : w.heap.size + 1 + 1 + 1 < B8 := by have := T.ge8; have := hbs''.out; omega
    have q9 : w.heap.size + 1 + 1 + 1 < B9 := by have := T.ge9; have := hbs''.out; omega
    clear e2 e3 hr2 hr3 hin hin' hS y1 y1a y1b E
    by_cases hf : fit (x / y)
    · obtain ⟨z0, z1, z2, z3, z4, z5, z6, z7, -, -, hz⟩ := words_of hf
      obtain ⟨r0, r1, r2, r3, r4, r5, r6, r7, -, -, hr⟩ := words_of hfr
      unfold resV outV at hou hou2
      simp only [if_pos hf, if_pos hfr, hz, hr] at hou hou2
      rw [if_pos hf, hz, hr] at hRV
      go_wp2_with fail
      with_reducible refine (hou _ _ LQ).mono ?_
      rintro e w5 ⟨r5, rfl, rfl, hb5⟩
      have X5 := next0 T.bel hb5
      have m9 := carry T.k9 hb5
      have LR5 := (LR.below hb5).below (below_al (Below.refl _ _) (.cells #[.int .u64 z0, .int .u64 z1, .int .u64 z2, .int .u64 z3, .int .u64 z4, .int .u64 z5, .int .u64 z6, .int .u64 z7] 24))
      have l9 := lt_of_heap m9
      obtain ⟨f5, f6, f7, f8⟩ := cells2 m9
      clear f1 f2 f3 f4 hou hlB
      go_wp2_with fail
      with_reducible refine (hou2 _ _ LR5).mono ?_
      rintro e w6 ⟨r6, rfl, rfl, hb6⟩
      have mP := lay1 hb6
      have X6 := next0 (below_al X5 (.cells #[.int .u64 z0, .int .u64 z1, .int .u64 z2, .int .u64 z3, .int .u64 z4, .int .u64 z5, .int .u64 z6, .int .u64 z7] 24)) hb6
      have X7 := below_al X6 (.cells #[.int .u64 r0, .int .u64 r1, .int .u64 r2, .int .u64 r3, .int .u64 r4, .int .u64 r5, .int .u64 r6, .int .u64 r7] 24)
      have kP := carry mP (below_al (Below.refl _ _) (.cells #[.int .u64 r0, .int .u64 r1, .int .u64 r2, .int .u64 r3, .int .u64 r4, .int .u64 r5, .int .u64 r6, .int .u64 r7] 24))
      have kQ := alloc_same w6 (.cells #[.int .u64 r0, .int .u64 r1, .int .u64 r2, .int .u64 r3, .int .u64 r4, .int .u64 r5, .int .u64 r6, .int .u64 r7] 24)
      have g1 := X5.size
      have g2 := X6.size
      have g3 := hb6.size
      clear f5 f6 f7 f8 hou2 LR5 hb5 hb6 m9 l9 LQ LR
      go_upto_region 8 with (fail)
      generalize w6.alloc (.cells #[.int .u64 r0, .int .u64 r1, .int .u64 r2, .int .u64 r3, .int .u64 r4, .int .u64 r5, .int .u64 r6, .int .u64 r7] 24) = wE at *
      have p1 : w.heap.size + 1 + 1 + 1 < w5.heap.size := by have := hbs''.out; omega
      have p2 : w.heap.size + 1 + 1 + 1 < w6.heap.size := by have := hbs''.out; omega
      generalize w5.heap.size = P at *
      generalize w6.heap.size = Q at *
      have k3' := (X7.block (w.heap.size + 1 + 1) (by have := hbs''.out; omega)).trans k3
      have k4' := (X7.block (w.heap.size + 1 + 1 + 1) (by have := hbs''.out; omega)).trans k4
      have hW : Below w.heap.size w wE := bw.trans (X7.mono bw.size)
      clear X5 X6 X7 k3 k4 bw T q8 q9 g1 g2 g3 mP
      have hS2 : ∀ U : World, U.heap[P]? = wE.heap[P]? → U.heap[Q]? = wE.heap[Q]? → U.cell? ⟨P, 0, none⟩ = some (.int .u64 z0) ∧ U.cell? ⟨P, 1, none⟩ = some (.int .u64 z1) ∧ U.cell? ⟨P, 2, none⟩ = some (.int .u64 z2) ∧ U.cell? ⟨P, 3, none⟩ = some (.int .u64 z3) ∧ U.cell? ⟨P, 4, none⟩ = some (.int .u64 z4) ∧ U.cell? ⟨P, 5, none⟩ = some (.int .u64 z5) ∧ U.cell? ⟨P, 6, none⟩ = some (.int .u64 z6) ∧ U.cell? ⟨P, 7, none⟩ = some (.int .u64 z7) ∧ U.cell? ⟨Q, 0, none⟩ = some (.int .u64 r0) ∧ U.cell? ⟨Q, 1, none⟩ = some (.int .u64 r1) ∧ U.cell? ⟨Q, 2, none⟩ = some (.int .u64 r2) ∧ U.cell? ⟨Q, 3, none⟩ = some (.int .u64 r3) ∧ U.cell? ⟨Q, 4, none⟩ = some (.int .u64 r4) ∧ U.cell? ⟨Q, 5, none⟩ = some (.int .u64 r5) ∧ U.cell? ⟨Q, 6, none⟩ = some (.int .u64 r6) ∧ U.cell? ⟨Q, 7, none⟩ = some (.int .u64 r7) := fun U e1 e2 => by
        have q1 := e1.trans kP
        have q2 := e2.trans kQ
        exact ⟨(cellOf (j := 0) q1).trans rfl, (cellOf (j := 1) q1).trans rfl, (cellOf (j := 2) q1).trans rfl, (cellOf (j := 3) q1).trans rfl, (cellOf (j := 4) q1).trans rfl, (cellOf (j := 5) q1).trans rfl, (cellOf (j := 6) q1).trans rfl, (cellOf (j := 7) q1).trans rfl, (cellOf (j := 0) q2).trans rfl, (cellOf (j := 1) q2).trans rfl, (cellOf (j := 2) q2).trans rfl, (cellOf (j := 3) q2).trans rfl, (cellOf (j := 4) q2).trans rfl, (cellOf (j := 5) q2).trans rfl, (cellOf (j := 6) q2).trans rfl, (cellOf (j := 7) q2).trans rfl⟩
      obtain ⟨x0, x1, x2, x3, x4, x5, x6, x7, xf⟩ := eight_zero k3'
      obtain ⟨t0, t1, t2, t3, t4, t5, t6, t7, tf⟩ := eight_zero k4'
      have pa : P ≠ w.heap.size + 1 + 1 := by omega
      have pb : P ≠ w.heap.size + 1 + 1 + 1 := by omega
      have qa : Q ≠ w.heap.size + 1 + 1 := by omega
      have qb : Q ≠ w.heap.size + 1 + 1 + 1 := by omega
      have hS0 := hS2 wE.drew (drew_heap _ _) (drew_heap _ _)
      have hS3 := hS2 (((((((((wE.setCell ⟨w.heap.size + 1 + 1, 0, none⟩ (.int .u64 z0)).setCell ⟨w.heap.size + 1 + 1, 1, none⟩ (.int .u64 z1)).setCell ⟨w.heap.size + 1 + 1, 2, none⟩ (.int .u64 z2)).setCell ⟨w.heap.size + 1 + 1, 3, none⟩ (.int .u64 z3)).setCell ⟨w.heap.size + 1 + 1, 4, none⟩ (.int .u64 z4)).setCell ⟨w.heap.size + 1 + 1, 5, none⟩ (.int .u64 z5)).setCell ⟨w.heap.size + 1 + 1, 6, none⟩ (.int .u64 z6)).setCell ⟨w.heap.size + 1 + 1, 7, none⟩ (.int .u64 z7)).drew) (set8_other_d pa _ _ _ _ _ _ _ _) (set8_other_d qa _ _ _ _ _ _ _ _)
      have hS4 := hS2 (((((((((((((((((wE.setCell ⟨w.heap.size + 1 + 1, 0, none⟩ (.int .u64 z0)).setCell ⟨w.heap.size + 1 + 1, 1, none⟩ (.int .u64 z1)).setCell ⟨w.heap.size + 1 + 1, 2, none⟩ (.int .u64 z2)).setCell ⟨w.heap.size + 1 + 1, 3, none⟩ (.int .u64 z3)).setCell ⟨w.heap.size + 1 + 1, 4, none⟩ (.int .u64 z4)).setCell ⟨w.heap.size + 1 + 1, 5, none⟩ (.int .u64 z5)).setCell ⟨w.heap.size + 1 + 1, 6, none⟩ (.int .u64 z6)).setCell ⟨w.heap.size + 1 + 1, 7, none⟩ (.int .u64 z7)).setCell ⟨w.heap.size + 1 + 1 + 1, 0, none⟩ (.int .u64 r0)).setCell ⟨w.heap.size + 1 + 1 + 1, 1, none⟩ (.int .u64 r1)).setCell ⟨w.heap.size + 1 + 1 + 1, 2, none⟩ (.int .u64 r2)).setCell ⟨w.heap.size + 1 + 1 + 1, 3, none⟩ (.int .u64 r3)).setCell ⟨w.heap.size + 1 + 1 + 1, 4, none⟩ (.int .u64 r4)).setCell ⟨w.heap.size + 1 + 1 + 1, 5, none⟩ (.int .u64 r5)).setCell ⟨w.heap.size + 1 + 1 + 1, 6, none⟩ (.int .u64 r6)).setCell ⟨w.heap.size + 1 + 1 + 1, 7, none⟩ (.int .u64 r7)).drew) ((set8_other_d pb _ _ _ _ _ _ _ _).trans (set8_other pa _ _ _ _ _ _ _ _)) ((set8_other_d qb _ _ _ _ _ _ _ _).trans (set8_other qa _ _ _ _ _ _ _ _))
      go_region_held3 (fun w' => w'.cell? ⟨P, 0, none⟩ = some (.int .u64 z0) ∧ w'.cell? ⟨P, 1, none⟩ = some (.int .u64 z1) ∧ w'.cell? ⟨P, 2, none⟩ = some (.int .u64 z2) ∧ w'.cell? ⟨P, 3, none⟩ = some (.int .u64 z3) ∧ w'.cell? ⟨P, 4, none⟩ = some (.int .u64 z4) ∧ w'.cell? ⟨P, 5, none⟩ = some (.int .u64 z5) ∧ w'.cell? ⟨P, 6, none⟩ = some (.int .u64 z6) ∧ w'.cell? ⟨P, 7, none⟩ = some (.int .u64 z7) ∧ w'.cell? ⟨Q, 0, none⟩ = some (.int .u64 r0) ∧ w'.cell? ⟨Q, 1, none⟩ = some (.int .u64 r1) ∧ w'.cell? ⟨Q, 2, none⟩ = some (.int .u64 r2) ∧ w'.cell? ⟨Q, 3, none⟩ = some (.int .u64 r3) ∧ w'.cell? ⟨Q, 4, none⟩ = some (.int .u64 r4) ∧ w'.cell? ⟨Q, 5, none⟩ = some (.int .u64 r5) ∧ w'.cell? ⟨Q, 6, none⟩ = some (.int .u64 r6) ∧ w'.cell? ⟨Q, 7, none⟩ = some (.int .u64 r7))
        ((with_reducible first | exact hS0 | exact hS3 | exact hS4))
        (first | (go_at_call 1; exact trivial))
      trace_state
      go_wp2
      exact bodyPost_ret (v := .tuple #[.agg #[.int .u64 z0, .int .u64 z1, .int .u64 z2, .int .u64 z3, .int .u64 z4, .int .u64 z5, .int .u64 z6, .int .u64 z7], .agg #[.int .u64 r0, .int .u64 r1, .int .u64 r2, .int .u64 r3, .int .u64 r4, .int .u64 r5, .int .u64 r6, .int .u64 r7], .int .i64 0]) (by simp [results, Tryz.results27, go_sem, x0, x1, x2, x3, x4, x5, x6, x7, t0, t1, t2, t3, t4, t5, t6, t7]) rfl ⟨_, rfl, hRV.symm, (below_set8 (below_set8 hW (by omega) _ _ _ _ _ _ _ _) (by omega) _ _ _ _ _ _ _ _).drew⟩
    · unfold resV bigV at hou
      simp only [if_neg hf, W0_eight] at hou
      rw [if_neg hf, W0_eight] at hRV
      go_wp2_with fail
      with_reducible refine (hou _ _ LQ).mono ?_
      rintro e w5 ⟨r5, rfl, rfl, hb5⟩
      have X5 := next0 T.bel hb5
      have k3' := (X5.block (w.heap.size + 1 + 1) (by have := hbs''.out; omega)).trans k3
      have k4' := (X5.block (w.heap.size + 1 + 1 + 1) (by have := hbs''.out; omega)).trans k4
      have hW : Below w.heap.size w w5 := bw.trans (X5.mono bw.size)
      have p1 : w.heap.size + 1 + 1 + 1 < w5.heap.size := by have := hbs''.out; have := X5.size; omega
      have p0 : w.heap.size + 1 + 1 < w5.heap.size := by omega
      obtain ⟨x0, x1, x2, x3, x4, x5, x6, x7, xf⟩ := eight_zero k3'
      obtain ⟨t0, t1, t2, t3, t4, t5, t6, t7, tf⟩ := eight_zero k4'
      clear X5 k3 k4 bw T q8 q9 hou hou2 LQ LR hb5 f1 f2 f3 f4 k3' k4' hlB
      go_wp2
      exact bodyPost_ret (v := .tuple #[.agg #[.int .u64 0, .int .u64 0, .int .u64 0, .int .u64 0, .int .u64 0, .int .u64 0, .int .u64 0, .int .u64 0], .agg #[.int .u64 0, .int .u64 0, .int .u64 0, .int .u64 0, .int .u64 0, .int .u64 0, .int .u64 0, .int .u64 0], .int .i64 6]) (by simp [results, Tryz.results27, go_sem, p0, p1, x0, x1, x2, x3, x4, x5, x6, x7, t0, t1, t2, t3, t4, t5, t6, t7]) rfl ⟨_, rfl, hRV.symm, below_al (below_set8 (below_set8 hW (by omega) _ _ _ _ _ _ _ _) (by omega) _ _ _ _ _ _ _ _) _⟩

end Go.Proofs.YtedhjlkidcojhaaGreat
