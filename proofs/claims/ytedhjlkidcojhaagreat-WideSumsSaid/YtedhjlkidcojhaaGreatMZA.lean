/-
  Contracts of the reference: Neg, Abs, Add, Sub, Mul.
-/
import Derived.Test.YtedhjlkidcojhaaGreatMS
import Derived.Test.YtedhjlkidcojhaaGreatMLFb
set_option linter.all false
namespace Go.Proofs.YtedhjlkidcojhaaGreat
open Go Go.Rx Go.RowKit Go.Big
attribute [local instance] noAv
theorem fit_bounds {x : Int} (h : fit x) : -6703903964971298549787012499102923063739682910296196688861780721860882015036773488400937149083451713845015929093243025426876941405973284973216824503042048 ≤ x ∧ x ≤ 6703903964971298549787012499102923063739682910296196688861780721860882015036773488400937149083451713845015929093243025426876941405973284973216824503042048 := by
  unfold fit P511 at h; omega
theorem pw64_huge : 6703903964971298549787012499102923063739682910296196688861780721860882015036773488400937149083451713845015929093243025426876941405973284973216824503042048 * 6703903964971298549787012499102923063739682910296196688861780721860882015036773488400937149083451713845015929093243025426876941405973284973216824503042048 < pw 64 := by decide
theorem small_add {x y : Int} (hx : fit x) (hy : fit y) : small (x + y) := by
  have := fit_bounds hx; have := fit_bounds hy; have := pw64_huge
  unfold small; omega
theorem small_sub {x y : Int} (hx : fit x) (hy : fit y) : small (x - y) := by
  have := fit_bounds hx; have := fit_bounds hy; have := pw64_huge
  unfold small; omega
theorem small_abs {x : Int} (hx : fit x) : small (x.natAbs : Int) := by
  have := fit_bounds hx; have := pw64_huge
  unfold small; omega
theorem small_mul {x y : Int} (hx : fit x) (hy : fit y) : small (x * y) := by
  have h1 := fit_bounds hx; have h2 := fit_bounds hy; have h3 := pw64_huge
  have e : ((x * y).natAbs : Int) = (x.natAbs : Int) * (y.natAbs : Int) := by rw [Int.natAbs_mul, Int.natCast_mul]
  have h4 : (x.natAbs : Int) * (y.natAbs : Int) ≤ 6703903964971298549787012499102923063739682910296196688861780721860882015036773488400937149083451713845015929093243025426876941405973284973216824503042048 * 6703903964971298549787012499102923063739682910296196688861780721860882015036773488400937149083451713845015929093243025426876941405973284973216824503042048 := Int.mul_le_mul (by omega) (by omega) (by omega) (by decide)
  unfold small
  omega
theorem heapT3 (w : World) (o1 o2 o3 : Obj) : (((w.alloc o1).alloc o2).alloc o3).heap[w.heap.size]? = some o1 ∧ (((w.alloc o1).alloc o2).alloc o3).heap[w.heap.size + 1]? = some o2 ∧ (((w.alloc o1).alloc o2).alloc o3).heap[w.heap.size + 1 + 1]? = some o3 := by
  obtain ⟨h1, h2, h3, _⟩ := heap4 w o1 o2 o3 o3
  have e : (((w.alloc o1).alloc o2).alloc o3).heap.size = w.heap.size + 1 + 1 + 1 := by simp
  have B := (Below.refl (w.heap.size + 1 + 1 + 1) (((w.alloc o1).alloc o2).alloc o3)).alloc (by rw [e]; exact Nat.le_refl _) o3
  exact ⟨(B.block _ (by omega)).symm.trans h1, (B.block _ (by omega)).symm.trans h2, (B.block _ (by omega)).symm.trans h3⟩
/-- The same digits, without a sign. -/
theorem LongV.size {w : World} {b : Bool} {s : Value} {x : Int} (h : LongV w (.agg #[.bool b, s]) x) : LongV w (.agg #[.bool false, s]) (x.natAbs : Int) := by
  obtain ⟨b', s', xs, he, h2, h3, h4, h5, h6⟩ := h
  injection he with he
  injection he with he
  injection he with e1 e2
  injection e1 with e1
  injection e2 with e2
  subst e1; subst e2
  refine ⟨false, _, xs, rfl, h2, h3, h4, (fun h => by cases h), ?_⟩
  have h0 := (val_bounds h3).1
  rw [sgz_f, h6]
  cases b <;> (first | rw [sgz_f] | rw [sgz_t]) <;> omega
set_option maxHeartbeats 4000000 in
set_option maxRecDepth 100000 in
theorem refNeg_c {w : World} {x : Int} (hx : fit x) : Calls Tryz.prog 17 #[W x] w (Gets (fun _ r => r = resV (-x) (fit (-x))) w) := by
  obtain ⟨a0, a1, a2, a3, a4, a5, a6, a7, hg, rfl, he⟩ := words_of hx
  rw [he]
  have hs := small_fit hx
  have hz := small_neg hs
  have hin := fun W => in_c (w := W) a0 a1 a2 a3 a4 a5 a6 a7 hg
  generalize hv : wint [a0, a1, a2, a3, a4, a5, a6, a7] = x at *
  obtain ⟨rr, ee, hr, hres⟩ := res_words (-x)
  obtain ⟨z0, z1, z2, z3, z4, z5, z6, z7, -, -, hd⟩ := words_of hr
  have hout : ∀ W u, LongV W u (-x) → Calls Tryz.prog 41 #[u] W (Gets (fun _ r => r = .tuple #[.agg #[.int .u64 z0, .int .u64 z1, .int .u64 z2, .int .u64 z3, .int .u64 z4, .int .u64 z5, .int .u64 z6, .int .u64 z7], .int .i64 ee]) W) := fun W u hu => by
    have := out_W hu hz
    rw [hres, hd] at this
    exact this
  rw [hres, hd]
  clear he hv hx hres hd hr
  obtain ⟨k1, k2⟩ := heap2 w (.cells #[.int .u64 a0, .int .u64 a1, .int .u64 a2, .int .u64 a3, .int .u64 a4, .int .u64 a5, .int .u64 a6, .int .u64 a7] 24) (.cells #[.int .u64 0, .int .u64 0, .int .u64 0, .int .u64 0, .int .u64 0, .int .u64 0, .int .u64 0, .int .u64 0] 24)
  have bw : Below w.heap.size w ((w.alloc (.cells #[.int .u64 a0, .int .u64 a1, .int .u64 a2, .int .u64 a3, .int .u64 a4, .int .u64 a5, .int .u64 a6, .int .u64 a7] 24)).alloc (.cells #[.int .u64 0, .int .u64 0, .int .u64 0, .int .u64 0, .int .u64 0, .int .u64 0, .int .u64 0, .int .u64 0] 24)) := ((Below.refl _ _).alloc (Nat.le_refl _) _).alloc (by simp) _
  have lo' : w.heap.size + 1 < ((w.alloc (.cells #[.int .u64 a0, .int .u64 a1, .int .u64 a2, .int .u64 a3, .int .u64 a4, .int .u64 a5, .int .u64 a6, .int .u64 a7] 24)).alloc (.cells #[.int .u64 0, .int .u64 0, .int .u64 0, .int .u64 0, .int .u64 0, .int .u64 0, .int .u64 0, .int .u64 0] 24)).heap.size := by simp
  go_enter Tryz.func17, Tryz.ntmps17
  go_wp2_with fail
  generalize ((w.alloc (.cells #[.int .u64 a0, .int .u64 a1, .int .u64 a2, .int .u64 a3, .int .u64 a4, .int .u64 a5, .int .u64 a6, .int .u64 a7] 24)).alloc (.cells #[.int .u64 0, .int .u64 0, .int .u64 0, .int .u64 0, .int .u64 0, .int .u64 0, .int .u64 0, .int .u64 0] 24)) = wb at *
  with_reducible refine (hin _).mono ?_
  rintro e w1 ⟨d, rfl, hd1, x1⟩
  go_wp2_with fail
  with_reducible refine (turn_c hd1 hs).mono ?_
  rintro e w2 ⟨d2, rfl, hdz, hb2⟩
  have xz := next0 x1 hb2
  go_wp2_with fail
  with_reducible refine (hout _ _ hdz).mono ?_
  rintro e w4 ⟨r4, rfl, rfl, hb4⟩
  have x4 := next0 xz hb4
  have q3 := (x4.block (w.heap.size + 1) lo').trans k2
  obtain ⟨y0, y1, y2, y3, y4, y5, y6, y7, fz⟩ := eight_zero q3
  have hB : Below w.heap.size w w4 := bw.trans (x4.mono (by omega))
  have hsz : w.heap.size + 1 < w4.heap.size := Nat.lt_of_lt_of_le lo' x4.size
  clear hin hd1 hdz hout x1 xz x4 hb4 k1 k2 q3
  go_wp2
  exact bodyPost_ret (v := .tuple #[.agg #[.int .u64 z0, .int .u64 z1, .int .u64 z2, .int .u64 z3, .int .u64 z4, .int .u64 z5, .int .u64 z6, .int .u64 z7], .int .i64 ee]) (by simp [results, Tryz.results17, go_sem, y0, y1, y2, y3, y4, y5, y6, y7, hsz]) rfl ⟨_, rfl, rfl, below_set8 hB (by omega) _ _ _ _ _ _ _ _⟩
set_option maxHeartbeats 4000000 in
set_option maxRecDepth 100000 in
theorem refAbs_c {w : World} {x : Int} (hx : fit x) : Calls Tryz.prog 19 #[W x] w (Gets (fun _ r => r = resV ((x.natAbs : Int)) (fit ((x.natAbs : Int)))) w) := by
  obtain ⟨a0, a1, a2, a3, a4, a5, a6, a7, hg, rfl, he⟩ := words_of hx
  rw [he]
  have hs := small_fit hx
  have hz := small_abs hx
  have hin := fun W => in_c (w := W) a0 a1 a2 a3 a4 a5 a6 a7 hg
  generalize hv : wint [a0, a1, a2, a3, a4, a5, a6, a7] = x at *
  obtain ⟨rr, ee, hr, hres⟩ := res_words ((x.natAbs : Int))
  obtain ⟨z0, z1, z2, z3, z4, z5, z6, z7, -, -, hd⟩ := words_of hr
  have hout : ∀ W u, LongV W u ((x.natAbs : Int)) → Calls Tryz.prog 41 #[u] W (Gets (fun _ r => r = .tuple #[.agg #[.int .u64 z0, .int .u64 z1, .int .u64 z2, .int .u64 z3, .int .u64 z4, .int .u64 z5, .int .u64 z6, .int .u64 z7], .int .i64 ee]) W) := fun W u hu => by
    have := out_W hu hz
    rw [hres, hd] at this
    exact this
  rw [hres, hd]
  clear he hv hx hres hd hr
  obtain ⟨k1, k2⟩ := heap2 w (.cells #[.int .u64 a0, .int .u64 a1, .int .u64 a2, .int .u64 a3, .int .u64 a4, .int .u64 a5, .int .u64 a6, .int .u64 a7] 24) (.cells #[.int .u64 0, .int .u64 0, .int .u64 0, .int .u64 0, .int .u64 0, .int .u64 0, .int .u64 0, .int .u64 0] 24)
  have bw : Below w.heap.size w ((w.alloc (.cells #[.int .u64 a0, .int .u64 a1, .int .u64 a2, .int .u64 a3, .int .u64 a4, .int .u64 a5, .int .u64 a6, .int .u64 a7] 24)).alloc (.cells #[.int .u64 0, .int .u64 0, .int .u64 0, .int .u64 0, .int .u64 0, .int .u64 0, .int .u64 0, .int .u64 0] 24)) := ((Below.refl _ _).alloc (Nat.le_refl _) _).alloc (by simp) _
  have lo' : w.heap.size + 1 < ((w.alloc (.cells #[.int .u64 a0, .int .u64 a1, .int .u64 a2, .int .u64 a3, .int .u64 a4, .int .u64 a5, .int .u64 a6, .int .u64 a7] 24)).alloc (.cells #[.int .u64 0, .int .u64 0, .int .u64 0, .int .u64 0, .int .u64 0, .int .u64 0, .int .u64 0, .int .u64 0] 24)).heap.size := by simp
  go_enter Tryz.func19, Tryz.ntmps19
  go_wp2_with fail
  generalize ((w.alloc (.cells #[.int .u64 a0, .int .u64 a1, .int .u64 a2, .int .u64 a3, .int .u64 a4, .int .u64 a5, .int .u64 a6, .int .u64 a7] 24)).alloc (.cells #[.int .u64 0, .int .u64 0, .int .u64 0, .int .u64 0, .int .u64 0, .int .u64 0, .int .u64 0, .int .u64 0] 24)) = wb at *
  with_reducible refine (hin _).mono ?_
  rintro e w1 ⟨d, rfl, hd1, x1⟩
  have hd1' := hd1
  obtain ⟨b1, s1, xs1, rfl, hr1, -⟩ := hd1'
  obtain ⟨sa1, sc1, rfl, -⟩ := hr1.len
  have hdz := LongV.size hd1
  have xz := x1
  have hfd : ∀ w : World, (Instr.field 64 (.agg #[.bool b1, .slice sa1 xs1.length sc1]) 1).run Tryz.prog w = .ok (.slice sa1 xs1.length sc1) w := fun _ => by kernel_rfl
  go_wp2_with fail
  with_reducible refine (hout _ _ hdz).mono ?_
  rintro e w4 ⟨r4, rfl, rfl, hb4⟩
  have x4 := next0 xz hb4
  have q3 := (x4.block (w.heap.size + 1) lo').trans k2
  obtain ⟨y0, y1, y2, y3, y4, y5, y6, y7, fz⟩ := eight_zero q3
  have hB : Below w.heap.size w w4 := bw.trans (x4.mono (by omega))
  have hsz : w.heap.size + 1 < w4.heap.size := Nat.lt_of_lt_of_le lo' x4.size
  clear hin hd1 hdz hout x1 xz x4 hb4 k1 k2 q3
  go_wp2
  exact bodyPost_ret (v := .tuple #[.agg #[.int .u64 z0, .int .u64 z1, .int .u64 z2, .int .u64 z3, .int .u64 z4, .int .u64 z5, .int .u64 z6, .int .u64 z7], .int .i64 ee]) (by simp [results, Tryz.results19, go_sem, y0, y1, y2, y3, y4, y5, y6, y7, hsz]) rfl ⟨_, rfl, rfl, below_set8 hB (by omega) _ _ _ _ _ _ _ _⟩
set_option maxHeartbeats 4000000 in
set_option maxRecDepth 100000 in
theorem refAdd_c {w : World} {x y : Int} (hx : fit x) (hy : fit y) : Calls Tryz.prog 21 #[W x, W y] w (Gets (fun _ r => r = resV (x + y) (fit (x + y))) w) := by
  obtain ⟨a0, a1, a2, a3, a4, a5, a6, a7, hg, rfl, he⟩ := words_of hx
  obtain ⟨c0, c1, c2, c3, c4, c5, c6, c7, hg', rfl, he'⟩ := words_of hy
  rw [he, he']
  have hs := small_fit hx
  have hs' := small_fit hy
  have hz := small_add hx hy
  have hin := fun W => in_c (w := W) a0 a1 a2 a3 a4 a5 a6 a7 hg
  have hin' := fun W => in_c (w := W) c0 c1 c2 c3 c4 c5 c6 c7 hg'
  generalize hv : wint [a0, a1, a2, a3, a4, a5, a6, a7] = x at *
  generalize hv' : wint [c0, c1, c2, c3, c4, c5, c6, c7] = y at *
  obtain ⟨rr, ee, hr, hres⟩ := res_words (x + y)
  obtain ⟨z0, z1, z2, z3, z4, z5, z6, z7, -, -, hd⟩ := words_of hr
  have hout : ∀ W u, LongV W u (x + y) → Calls Tryz.prog 41 #[u] W (Gets (fun _ r => r = .tuple #[.agg #[.int .u64 z0, .int .u64 z1, .int .u64 z2, .int .u64 z3, .int .u64 z4, .int .u64 z5, .int .u64 z6, .int .u64 z7], .int .i64 ee]) W) := fun W u hu => by
    have := out_W hu hz
    rw [hres, hd] at this
    exact this
  rw [hres, hd]
  clear he hv hx he' hv' hy hres hd hr
  obtain ⟨k1, k2, k3⟩ := heapT3 w (.cells #[.int .u64 a0, .int .u64 a1, .int .u64 a2, .int .u64 a3, .int .u64 a4, .int .u64 a5, .int .u64 a6, .int .u64 a7] 24) (.cells #[.int .u64 c0, .int .u64 c1, .int .u64 c2, .int .u64 c3, .int .u64 c4, .int .u64 c5, .int .u64 c6, .int .u64 c7] 24) (.cells #[.int .u64 0, .int .u64 0, .int .u64 0, .int .u64 0, .int .u64 0, .int .u64 0, .int .u64 0, .int .u64 0] 24)
  have bw : Below w.heap.size w (((w.alloc (.cells #[.int .u64 a0, .int .u64 a1, .int .u64 a2, .int .u64 a3, .int .u64 a4, .int .u64 a5, .int .u64 a6, .int .u64 a7] 24)).alloc (.cells #[.int .u64 c0, .int .u64 c1, .int .u64 c2, .int .u64 c3, .int .u64 c4, .int .u64 c5, .int .u64 c6, .int .u64 c7] 24)).alloc (.cells #[.int .u64 0, .int .u64 0, .int .u64 0, .int .u64 0, .int .u64 0, .int .u64 0, .int .u64 0, .int .u64 0] 24)) := (((Below.refl _ _).alloc (Nat.le_refl _) _).alloc (by simp) _).alloc (by simp; omega) _
  have hbs : (((w.alloc (.cells #[.int .u64 a0, .int .u64 a1, .int .u64 a2, .int .u64 a3, .int .u64 a4, .int .u64 a5, .int .u64 a6, .int .u64 a7] 24)).alloc (.cells #[.int .u64 c0, .int .u64 c1, .int .u64 c2, .int .u64 c3, .int .u64 c4, .int .u64 c5, .int .u64 c6, .int .u64 c7] 24)).alloc (.cells #[.int .u64 0, .int .u64 0, .int .u64 0, .int .u64 0, .int .u64 0, .int .u64 0, .int .u64 0, .int .u64 0] 24)).heap.size = w.heap.size + 1 + 1 + 1 := by simp
  go_enter Tryz.func21, Tryz.ntmps21
  go_wp2
  generalize (((w.alloc (.cells #[.int .u64 a0, .int .u64 a1, .int .u64 a2, .int .u64 a3, .int .u64 a4, .int .u64 a5, .int .u64 a6, .int .u64 a7] 24)).alloc (.cells #[.int .u64 c0, .int .u64 c1, .int .u64 c2, .int .u64 c3, .int .u64 c4, .int .u64 c5, .int .u64 c6, .int .u64 c7] 24)).alloc (.cells #[.int .u64 0, .int .u64 0, .int .u64 0, .int .u64 0, .int .u64 0, .int .u64 0, .int .u64 0, .int .u64 0] 24)) = wb at *
  have allS : ∀ W, Below (w.heap.size + 1 + 1) wb W → W.cell? ⟨w.heap.size, 0, none⟩ = some (.int .u64 a0) ∧ W.cell? ⟨w.heap.size, 1, none⟩ = some (.int .u64 a1) ∧ W.cell? ⟨w.heap.size, 2, none⟩ = some (.int .u64 a2) ∧ W.cell? ⟨w.heap.size, 3, none⟩ = some (.int .u64 a3) ∧ W.cell? ⟨w.heap.size, 4, none⟩ = some (.int .u64 a4) ∧ W.cell? ⟨w.heap.size, 5, none⟩ = some (.int .u64 a5) ∧ W.cell? ⟨w.heap.size, 6, none⟩ = some (.int .u64 a6) ∧ W.cell? ⟨w.heap.size, 7, none⟩ = some (.int .u64 a7) ∧ W.cell? ⟨w.heap.size + 1, 0, none⟩ = some (.int .u64 c0) ∧ W.cell? ⟨w.heap.size + 1, 1, none⟩ = some (.int .u64 c1) ∧ W.cell? ⟨w.heap.size + 1, 2, none⟩ = some (.int .u64 c2) ∧ W.cell? ⟨w.heap.size + 1, 3, none⟩ = some (.int .u64 c3) ∧ W.cell? ⟨w.heap.size + 1, 4, none⟩ = some (.int .u64 c4) ∧ W.cell? ⟨w.heap.size + 1, 5, none⟩ = some (.int .u64 c5) ∧ W.cell? ⟨w.heap.size + 1, 6, none⟩ = some (.int .u64 c6) ∧ W.cell? ⟨w.heap.size + 1, 7, none⟩ = some (.int .u64 c7) := fun W hW => by
    have q1 := (hW.block w.heap.size (by omega)).trans k1
    have q2 := (hW.block (w.heap.size + 1) (by omega)).trans k2
    exact ⟨(cellOf (j := 0) q1).trans rfl, (cellOf (j := 1) q1).trans rfl, (cellOf (j := 2) q1).trans rfl, (cellOf (j := 3) q1).trans rfl, (cellOf (j := 4) q1).trans rfl, (cellOf (j := 5) q1).trans rfl, (cellOf (j := 6) q1).trans rfl, (cellOf (j := 7) q1).trans rfl, (cellOf (j := 0) q2).trans rfl, (cellOf (j := 1) q2).trans rfl, (cellOf (j := 2) q2).trans rfl, (cellOf (j := 3) q2).trans rfl, (cellOf (j := 4) q2).trans rfl, (cellOf (j := 5) q2).trans rfl, (cellOf (j := 6) q2).trans rfl, (cellOf (j := 7) q2).trans rfl⟩
  have hbs' := Lib.hid hbs
  have x0 : Below wb.heap.size wb wb.drew := (Below.refl _ _).drew
  have lo : w.heap.size + 1 + 1 ≤ wb.heap.size := by omega
  have lo' : w.heap.size + 1 + 1 < wb.heap.size := by omega
  clear hbs
  go_region_held3 (fun w' => w'.cell? ⟨w.heap.size, 0, none⟩ = some (.int .u64 a0) ∧ w'.cell? ⟨w.heap.size, 1, none⟩ = some (.int .u64 a1) ∧ w'.cell? ⟨w.heap.size, 2, none⟩ = some (.int .u64 a2) ∧ w'.cell? ⟨w.heap.size, 3, none⟩ = some (.int .u64 a3) ∧ w'.cell? ⟨w.heap.size, 4, none⟩ = some (.int .u64 a4) ∧ w'.cell? ⟨w.heap.size, 5, none⟩ = some (.int .u64 a5) ∧ w'.cell? ⟨w.heap.size, 6, none⟩ = some (.int .u64 a6) ∧ w'.cell? ⟨w.heap.size, 7, none⟩ = some (.int .u64 a7) ∧ w'.cell? ⟨w.heap.size + 1, 0, none⟩ = some (.int .u64 c0) ∧ w'.cell? ⟨w.heap.size + 1, 1, none⟩ = some (.int .u64 c1) ∧ w'.cell? ⟨w.heap.size + 1, 2, none⟩ = some (.int .u64 c2) ∧ w'.cell? ⟨w.heap.size + 1, 3, none⟩ = some (.int .u64 c3) ∧ w'.cell? ⟨w.heap.size + 1, 4, none⟩ = some (.int .u64 c4) ∧ w'.cell? ⟨w.heap.size + 1, 5, none⟩ = some (.int .u64 c5) ∧ w'.cell? ⟨w.heap.size + 1, 6, none⟩ = some (.int .u64 c6) ∧ w'.cell? ⟨w.heap.size + 1, 7, none⟩ = some (.int .u64 c7))
    ((refine allS _ ?_; with_reducible first | exact x0.mono lo | exact x1.mono lo | exact x2.mono lo | exact x3.mono lo | exact x4.mono lo | exact below_set8 (x4.mono lo) (Nat.le_refl _) _ _ _ _ _ _ _ _))
    (first | (go_at_call 47; ((with_reducible refine (hin _).mono ?_)); rintro e w1 ⟨d, rfl, hd1, hb⟩; have x1 := next0 x0 hb) | (go_at_call 47; ((with_reducible refine (hin' _).mono ?_)); rintro e w2 ⟨d', rfl, hd2, hb2⟩; have x2 := next0 x1 hb2) | (go_at_call 53; ((with_reducible refine (plus_c (hd1.below hb2) hd2 hs hs').mono ?_)); rintro e w3 ⟨r, rfl, hd3, hb3⟩; have x3 := next0 x2 hb3) | (go_at_call 41; ((with_reducible refine (hout _ _ hd3).mono ?_)); rintro e w4 ⟨r4, rfl, rfl, hb4⟩; have x4 := next0 x3 hb4; have q3 := (x4.block (w.heap.size + 1 + 1) lo').trans k3; obtain ⟨y0, y1, y2, y3, y4, y5, y6, y7, fz⟩ := eight_zero q3))
  have hB : Below w.heap.size w w4 := bw.trans (x4.mono (by omega))
  have hsz : w.heap.size + 1 + 1 < w4.heap.size := Nat.lt_of_lt_of_le lo' x4.size
  clear hin hin' hd1 hd2 hd3 hout x0 x1 x2 x3 x4 hb hb2 hb3 hb4 allS k1 k2 k3 q3
  go_wp2
  exact bodyPost_ret (v := .tuple #[.agg #[.int .u64 z0, .int .u64 z1, .int .u64 z2, .int .u64 z3, .int .u64 z4, .int .u64 z5, .int .u64 z6, .int .u64 z7], .int .i64 ee]) (by simp [results, Tryz.results21, go_sem, y0, y1, y2, y3, y4, y5, y6, y7, hsz]) rfl ⟨_, rfl, rfl, below_set8 hB (by omega) _ _ _ _ _ _ _ _⟩
set_option maxHeartbeats 4000000 in
set_option maxRecDepth 100000 in
theorem refSub_c {w : World} {x y : Int} (hx : fit x) (hy : fit y) : Calls Tryz.prog 23 #[W x, W y] w (Gets (fun _ r => r = resV (x - y) (fit (x - y))) w) := by
  obtain ⟨a0, a1, a2, a3, a4, a5, a6, a7, hg, rfl, he⟩ := words_of hx
  obtain ⟨c0, c1, c2, c3, c4, c5, c6, c7, hg', rfl, he'⟩ := words_of hy
  rw [he, he']
  have hs := small_fit hx
  have hs' := small_fit hy
  have hz := small_sub hx hy
  have hin := fun W => in_c (w := W) a0 a1 a2 a3 a4 a5 a6 a7 hg
  have hin' := fun W => in_c (w := W) c0 c1 c2 c3 c4 c5 c6 c7 hg'
  generalize hv : wint [a0, a1, a2, a3, a4, a5, a6, a7] = x at *
  generalize hv' : wint [c0, c1, c2, c3, c4, c5, c6, c7] = y at *
  obtain ⟨rr, ee, hr, hres⟩ := res_words (x - y)
  obtain ⟨z0, z1, z2, z3, z4, z5, z6, z7, -, -, hd⟩ := words_of hr
  have hout : ∀ W u, LongV W u (x - y) → Calls Tryz.prog 41 #[u] W (Gets (fun _ r => r = .tuple #[.agg #[.int .u64 z0, .int .u64 z1, .int .u64 z2, .int .u64 z3, .int .u64 z4, .int .u64 z5, .int .u64 z6, .int .u64 z7], .int .i64 ee]) W) := fun W u hu => by
    have := out_W hu hz
    rw [hres, hd] at this
    exact this
  rw [hres, hd]
  clear he hv hx he' hv' hy hres hd hr
  obtain ⟨k1, k2, k3⟩ := heapT3 w (.cells #[.int .u64 a0, .int .u64 a1, .int .u64 a2, .int .u64 a3, .int .u64 a4, .int .u64 a5, .int .u64 a6, .int .u64 a7] 24) (.cells #[.int .u64 c0, .int .u64 c1, .int .u64 c2, .int .u64 c3, .int .u64 c4, .int .u64 c5, .int .u64 c6, .int .u64 c7] 24) (.cells #[.int .u64 0, .int .u64 0, .int .u64 0, .int .u64 0, .int .u64 0, .int .u64 0, .int .u64 0, .int .u64 0] 24)
  have bw : Below w.heap.size w (((w.alloc (.cells #[.int .u64 a0, .int .u64 a1, .int .u64 a2, .int .u64 a3, .int .u64 a4, .int .u64 a5, .int .u64 a6, .int .u64 a7] 24)).alloc (.cells #[.int .u64 c0, .int .u64 c1, .int .u64 c2, .int .u64 c3, .int .u64 c4, .int .u64 c5, .int .u64 c6, .int .u64 c7] 24)).alloc (.cells #[.int .u64 0, .int .u64 0, .int .u64 0, .int .u64 0, .int .u64 0, .int .u64 0, .int .u64 0, .int .u64 0] 24)) := (((Below.refl _ _).alloc (Nat.le_refl _) _).alloc (by simp) _).alloc (by simp; omega) _
  have hbs : (((w.alloc (.cells #[.int .u64 a0, .int .u64 a1, .int .u64 a2, .int .u64 a3, .int .u64 a4, .int .u64 a5, .int .u64 a6, .int .u64 a7] 24)).alloc (.cells #[.int .u64 c0, .int .u64 c1, .int .u64 c2, .int .u64 c3, .int .u64 c4, .int .u64 c5, .int .u64 c6, .int .u64 c7] 24)).alloc (.cells #[.int .u64 0, .int .u64 0, .int .u64 0, .int .u64 0, .int .u64 0, .int .u64 0, .int .u64 0, .int .u64 0] 24)).heap.size = w.heap.size + 1 + 1 + 1 := by simp
  go_enter Tryz.func23, Tryz.ntmps23
  go_wp2
  generalize (((w.alloc (.cells #[.int .u64 a0, .int .u64 a1, .int .u64 a2, .int .u64 a3, .int .u64 a4, .int .u64 a5, .int .u64 a6, .int .u64 a7] 24)).alloc (.cells #[.int .u64 c0, .int .u64 c1, .int .u64 c2, .int .u64 c3, .int .u64 c4, .int .u64 c5, .int .u64 c6, .int .u64 c7] 24)).alloc (.cells #[.int .u64 0, .int .u64 0, .int .u64 0, .int .u64 0, .int .u64 0, .int .u64 0, .int .u64 0, .int .u64 0] 24)) = wb at *
  have allS : ∀ W, Below (w.heap.size + 1 + 1) wb W → W.cell? ⟨w.heap.size, 0, none⟩ = some (.int .u64 a0) ∧ W.cell? ⟨w.heap.size, 1, none⟩ = some (.int .u64 a1) ∧ W.cell? ⟨w.heap.size, 2, none⟩ = some (.int .u64 a2) ∧ W.cell? ⟨w.heap.size, 3, none⟩ = some (.int .u64 a3) ∧ W.cell? ⟨w.heap.size, 4, none⟩ = some (.int .u64 a4) ∧ W.cell? ⟨w.heap.size, 5, none⟩ = some (.int .u64 a5) ∧ W.cell? ⟨w.heap.size, 6, none⟩ = some (.int .u64 a6) ∧ W.cell? ⟨w.heap.size, 7, none⟩ = some (.int .u64 a7) ∧ W.cell? ⟨w.heap.size + 1, 0, none⟩ = some (.int .u64 c0) ∧ W.cell? ⟨w.heap.size + 1, 1, none⟩ = some (.int .u64 c1) ∧ W.cell? ⟨w.heap.size + 1, 2, none⟩ = some (.int .u64 c2) ∧ W.cell? ⟨w.heap.size + 1, 3, none⟩ = some (.int .u64 c3) ∧ W.cell? ⟨w.heap.size + 1, 4, none⟩ = some (.int .u64 c4) ∧ W.cell? ⟨w.heap.size + 1, 5, none⟩ = some (.int .u64 c5) ∧ W.cell? ⟨w.heap.size + 1, 6, none⟩ = some (.int .u64 c6) ∧ W.cell? ⟨w.heap.size + 1, 7, none⟩ = some (.int .u64 c7) := fun W hW => by
    have q1 := (hW.block w.heap.size (by omega)).trans k1
    have q2 := (hW.block (w.heap.size + 1) (by omega)).trans k2
    exact ⟨(cellOf (j := 0) q1).trans rfl, (cellOf (j := 1) q1).trans rfl, (cellOf (j := 2) q1).trans rfl, (cellOf (j := 3) q1).trans rfl, (cellOf (j := 4) q1).trans rfl, (cellOf (j := 5) q1).trans rfl, (cellOf (j := 6) q1).trans rfl, (cellOf (j := 7) q1).trans rfl, (cellOf (j := 0) q2).trans rfl, (cellOf (j := 1) q2).trans rfl, (cellOf (j := 2) q2).trans rfl, (cellOf (j := 3) q2).trans rfl, (cellOf (j := 4) q2).trans rfl, (cellOf (j := 5) q2).trans rfl, (cellOf (j := 6) q2).trans rfl, (cellOf (j := 7) q2).trans rfl⟩
  have hbs' := Lib.hid hbs
  have x0 : Below wb.heap.size wb wb.drew := (Below.refl _ _).drew
  have lo : w.heap.size + 1 + 1 ≤ wb.heap.size := by omega
  have lo' : w.heap.size + 1 + 1 < wb.heap.size := by omega
  clear hbs
  go_region_held3 (fun w' => w'.cell? ⟨w.heap.size, 0, none⟩ = some (.int .u64 a0) ∧ w'.cell? ⟨w.heap.size, 1, none⟩ = some (.int .u64 a1) ∧ w'.cell? ⟨w.heap.size, 2, none⟩ = some (.int .u64 a2) ∧ w'.cell? ⟨w.heap.size, 3, none⟩ = some (.int .u64 a3) ∧ w'.cell? ⟨w.heap.size, 4, none⟩ = some (.int .u64 a4) ∧ w'.cell? ⟨w.heap.size, 5, none⟩ = some (.int .u64 a5) ∧ w'.cell? ⟨w.heap.size, 6, none⟩ = some (.int .u64 a6) ∧ w'.cell? ⟨w.heap.size, 7, none⟩ = some (.int .u64 a7) ∧ w'.cell? ⟨w.heap.size + 1, 0, none⟩ = some (.int .u64 c0) ∧ w'.cell? ⟨w.heap.size + 1, 1, none⟩ = some (.int .u64 c1) ∧ w'.cell? ⟨w.heap.size + 1, 2, none⟩ = some (.int .u64 c2) ∧ w'.cell? ⟨w.heap.size + 1, 3, none⟩ = some (.int .u64 c3) ∧ w'.cell? ⟨w.heap.size + 1, 4, none⟩ = some (.int .u64 c4) ∧ w'.cell? ⟨w.heap.size + 1, 5, none⟩ = some (.int .u64 c5) ∧ w'.cell? ⟨w.heap.size + 1, 6, none⟩ = some (.int .u64 c6) ∧ w'.cell? ⟨w.heap.size + 1, 7, none⟩ = some (.int .u64 c7))
    ((refine allS _ ?_; with_reducible first | exact x0.mono lo | exact x1.mono lo | exact x2.mono lo | exact x3.mono lo | exact x4.mono lo | exact below_set8 (x4.mono lo) (Nat.le_refl _) _ _ _ _ _ _ _ _))
    (first | (go_at_call 47; ((with_reducible refine (hin _).mono ?_)); rintro e w1 ⟨d, rfl, hd1, hb⟩; have x1 := next0 x0 hb) | (go_at_call 47; ((with_reducible refine (hin' _).mono ?_)); rintro e w2 ⟨d', rfl, hd2, hb2⟩; have x2 := next0 x1 hb2) | (go_at_call 54; ((with_reducible refine (minus_c (hd1.below hb2) hd2 hs hs').mono ?_)); rintro e w3 ⟨r, rfl, hd3, hb3⟩; have x3 := next0 x2 hb3) | (go_at_call 41; ((with_reducible refine (hout _ _ hd3).mono ?_)); rintro e w4 ⟨r4, rfl, rfl, hb4⟩; have x4 := next0 x3 hb4; have q3 := (x4.block (w.heap.size + 1 + 1) lo').trans k3; obtain ⟨y0, y1, y2, y3, y4, y5, y6, y7, fz⟩ := eight_zero q3))
  have hB : Below w.heap.size w w4 := bw.trans (x4.mono (by omega))
  have hsz : w.heap.size + 1 + 1 < w4.heap.size := Nat.lt_of_lt_of_le lo' x4.size
  clear hin hin' hd1 hd2 hd3 hout x0 x1 x2 x3 x4 hb hb2 hb3 hb4 allS k1 k2 k3 q3
  go_wp2
  exact bodyPost_ret (v := .tuple #[.agg #[.int .u64 z0, .int .u64 z1, .int .u64 z2, .int .u64 z3, .int .u64 z4, .int .u64 z5, .int .u64 z6, .int .u64 z7], .int .i64 ee]) (by simp [results, Tryz.results23, go_sem, y0, y1, y2, y3, y4, y5, y6, y7, hsz]) rfl ⟨_, rfl, rfl, below_set8 hB (by omega) _ _ _ _ _ _ _ _⟩
set_option maxHeartbeats 4000000 in
set_option maxRecDepth 100000 in
theorem refMul_c {w : World} {x y : Int} (hx : fit x) (hy : fit y) : Calls Tryz.prog 25 #[W x, W y] w (Gets (fun _ r => r = resV (x * y) (fit (x * y))) w) := by
  obtain ⟨a0, a1, a2, a3, a4, a5, a6, a7, hg, rfl, he⟩ := words_of hx
  obtain ⟨c0, c1, c2, c3, c4, c5, c6, c7, hg', rfl, he'⟩ := words_of hy
  rw [he, he']
  have hs := small_fit hx
  have hs' := small_fit hy
  have hz := small_mul hx hy
  have hin := fun W => in_c (w := W) a0 a1 a2 a3 a4 a5 a6 a7 hg
  have hin' := fun W => in_c (w := W) c0 c1 c2 c3 c4 c5 c6 c7 hg'
  generalize hv : wint [a0, a1, a2, a3, a4, a5, a6, a7] = x at *
  generalize hv' : wint [c0, c1, c2, c3, c4, c5, c6, c7] = y at *
  obtain ⟨rr, ee, hr, hres⟩ := res_words (x * y)
  obtain ⟨z0, z1, z2, z3, z4, z5, z6, z7, -, -, hd⟩ := words_of hr
  have hout : ∀ W u, LongV W u (x * y) → Calls Tryz.prog 41 #[u] W (Gets (fun _ r => r = .tuple #[.agg #[.int .u64 z0, .int .u64 z1, .int .u64 z2, .int .u64 z3, .int .u64 z4, .int .u64 z5, .int .u64 z6, .int .u64 z7], .int .i64 ee]) W) := fun W u hu => by
    have := out_W hu hz
    rw [hres, hd] at this
    exact this
  rw [hres, hd]
  clear he hv hx he' hv' hy hres hd hr
  obtain ⟨k1, k2, k3⟩ := heapT3 w (.cells #[.int .u64 a0, .int .u64 a1, .int .u64 a2, .int .u64 a3, .int .u64 a4, .int .u64 a5, .int .u64 a6, .int .u64 a7] 24) (.cells #[.int .u64 c0, .int .u64 c1, .int .u64 c2, .int .u64 c3, .int .u64 c4, .int .u64 c5, .int .u64 c6, .int .u64 c7] 24) (.cells #[.int .u64 0, .int .u64 0, .int .u64 0, .int .u64 0, .int .u64 0, .int .u64 0, .int .u64 0, .int .u64 0] 24)
  have bw : Below w.heap.size w (((w.alloc (.cells #[.int .u64 a0, .int .u64 a1, .int .u64 a2, .int .u64 a3, .int .u64 a4, .int .u64 a5, .int .u64 a6, .int .u64 a7] 24)).alloc (.cells #[.int .u64 c0, .int .u64 c1, .int .u64 c2, .int .u64 c3, .int .u64 c4, .int .u64 c5, .int .u64 c6, .int .u64 c7] 24)).alloc (.cells #[.int .u64 0, .int .u64 0, .int .u64 0, .int .u64 0, .int .u64 0, .int .u64 0, .int .u64 0, .int .u64 0] 24)) := (((Below.refl _ _).alloc (Nat.le_refl _) _).alloc (by simp) _).alloc (by simp; omega) _
  have hbs : (((w.alloc (.cells #[.int .u64 a0, .int .u64 a1, .int .u64 a2, .int .u64 a3, .int .u64 a4, .int .u64 a5, .int .u64 a6, .int .u64 a7] 24)).alloc (.cells #[.int .u64 c0, .int .u64 c1, .int .u64 c2, .int .u64 c3, .int .u64 c4, .int .u64 c5, .int .u64 c6, .int .u64 c7] 24)).alloc (.cells #[.int .u64 0, .int .u64 0, .int .u64 0, .int .u64 0, .int .u64 0, .int .u64 0, .int .u64 0, .int .u64 0] 24)).heap.size = w.heap.size + 1 + 1 + 1 := by simp
  go_enter Tryz.func25, Tryz.ntmps25
  go_wp2
  generalize (((w.alloc (.cells #[.int .u64 a0, .int .u64 a1, .int .u64 a2, .int .u64 a3, .int .u64 a4, .int .u64 a5, .int .u64 a6, .int .u64 a7] 24)).alloc (.cells #[.int .u64 c0, .int .u64 c1, .int .u64 c2, .int .u64 c3, .int .u64 c4, .int .u64 c5, .int .u64 c6, .int .u64 c7] 24)).alloc (.cells #[.int .u64 0, .int .u64 0, .int .u64 0, .int .u64 0, .int .u64 0, .int .u64 0, .int .u64 0, .int .u64 0] 24)) = wb at *
  have allS : ∀ W, Below (w.heap.size + 1 + 1) wb W → W.cell? ⟨w.heap.size, 0, none⟩ = some (.int .u64 a0) ∧ W.cell? ⟨w.heap.size, 1, none⟩ = some (.int .u64 a1) ∧ W.cell? ⟨w.heap.size, 2, none⟩ = some (.int .u64 a2) ∧ W.cell? ⟨w.heap.size, 3, none⟩ = some (.int .u64 a3) ∧ W.cell? ⟨w.heap.size, 4, none⟩ = some (.int .u64 a4) ∧ W.cell? ⟨w.heap.size, 5, none⟩ = some (.int .u64 a5) ∧ W.cell? ⟨w.heap.size, 6, none⟩ = some (.int .u64 a6) ∧ W.cell? ⟨w.heap.size, 7, none⟩ = some (.int .u64 a7) ∧ W.cell? ⟨w.heap.size + 1, 0, none⟩ = some (.int .u64 c0) ∧ W.cell? ⟨w.heap.size + 1, 1, none⟩ = some (.int .u64 c1) ∧ W.cell? ⟨w.heap.size + 1, 2, none⟩ = some (.int .u64 c2) ∧ W.cell? ⟨w.heap.size + 1, 3, none⟩ = some (.int .u64 c3) ∧ W.cell? ⟨w.heap.size + 1, 4, none⟩ = some (.int .u64 c4) ∧ W.cell? ⟨w.heap.size + 1, 5, none⟩ = some (.int .u64 c5) ∧ W.cell? ⟨w.heap.size + 1, 6, none⟩ = some (.int .u64 c6) ∧ W.cell? ⟨w.heap.size + 1, 7, none⟩ = some (.int .u64 c7) := fun W hW => by
    have q1 := (hW.block w.heap.size (by omega)).trans k1
    have q2 := (hW.block (w.heap.size + 1) (by omega)).trans k2
    exact ⟨(cellOf (j := 0) q1).trans rfl, (cellOf (j := 1) q1).trans rfl, (cellOf (j := 2) q1).trans rfl, (cellOf (j := 3) q1).trans rfl, (cellOf (j := 4) q1).trans rfl, (cellOf (j := 5) q1).trans rfl, (cellOf (j := 6) q1).trans rfl, (cellOf (j := 7) q1).trans rfl, (cellOf (j := 0) q2).trans rfl, (cellOf (j := 1) q2).trans rfl, (cellOf (j := 2) q2).trans rfl, (cellOf (j := 3) q2).trans rfl, (cellOf (j := 4) q2).trans rfl, (cellOf (j := 5) q2).trans rfl, (cellOf (j := 6) q2).trans rfl, (cellOf (j := 7) q2).trans rfl⟩
  have hbs' := Lib.hid hbs
  have x0 : Below wb.heap.size wb wb.drew := (Below.refl _ _).drew
  have lo : w.heap.size + 1 + 1 ≤ wb.heap.size := by omega
  have lo' : w.heap.size + 1 + 1 < wb.heap.size := by omega
  clear hbs
  go_region_held3 (fun w' => w'.cell? ⟨w.heap.size, 0, none⟩ = some (.int .u64 a0) ∧ w'.cell? ⟨w.heap.size, 1, none⟩ = some (.int .u64 a1) ∧ w'.cell? ⟨w.heap.size, 2, none⟩ = some (.int .u64 a2) ∧ w'.cell? ⟨w.heap.size, 3, none⟩ = some (.int .u64 a3) ∧ w'.cell? ⟨w.heap.size, 4, none⟩ = some (.int .u64 a4) ∧ w'.cell? ⟨w.heap.size, 5, none⟩ = some (.int .u64 a5) ∧ w'.cell? ⟨w.heap.size, 6, none⟩ = some (.int .u64 a6) ∧ w'.cell? ⟨w.heap.size, 7, none⟩ = some (.int .u64 a7) ∧ w'.cell? ⟨w.heap.size + 1, 0, none⟩ = some (.int .u64 c0) ∧ w'.cell? ⟨w.heap.size + 1, 1, none⟩ = some (.int .u64 c1) ∧ w'.cell? ⟨w.heap.size + 1, 2, none⟩ = some (.int .u64 c2) ∧ w'.cell? ⟨w.heap.size + 1, 3, none⟩ = some (.int .u64 c3) ∧ w'.cell? ⟨w.heap.size + 1, 4, none⟩ = some (.int .u64 c4) ∧ w'.cell? ⟨w.heap.size + 1, 5, none⟩ = some (.int .u64 c5) ∧ w'.cell? ⟨w.heap.size + 1, 6, none⟩ = some (.int .u64 c6) ∧ w'.cell? ⟨w.heap.size + 1, 7, none⟩ = some (.int .u64 c7))
    ((refine allS _ ?_; with_reducible first | exact x0.mono lo | exact x1.mono lo | exact x2.mono lo | exact x3.mono lo | exact x4.mono lo | exact below_set8 (x4.mono lo) (Nat.le_refl _) _ _ _ _ _ _ _ _))
    (first | (go_at_call 47; ((with_reducible refine (hin _).mono ?_)); rintro e w1 ⟨d, rfl, hd1, hb⟩; have x1 := next0 x0 hb) | (go_at_call 47; ((with_reducible refine (hin' _).mono ?_)); rintro e w2 ⟨d', rfl, hd2, hb2⟩; have x2 := next0 x1 hb2) | (go_at_call 55; ((with_reducible refine (times_c (hd1.below hb2) hd2 hs hs').mono ?_)); rintro e w3 ⟨r, rfl, hd3, hb3⟩; have x3 := next0 x2 hb3) | (go_at_call 41; ((with_reducible refine (hout _ _ hd3).mono ?_)); rintro e w4 ⟨r4, rfl, rfl, hb4⟩; have x4 := next0 x3 hb4; have q3 := (x4.block (w.heap.size + 1 + 1) lo').trans k3; obtain ⟨y0, y1, y2, y3, y4, y5, y6, y7, fz⟩ := eight_zero q3))
  have hB : Below w.heap.size w w4 := bw.trans (x4.mono (by omega))
  have hsz : w.heap.size + 1 + 1 < w4.heap.size := Nat.lt_of_lt_of_le lo' x4.size
  clear hin hin' hd1 hd2 hd3 hout x0 x1 x2 x3 x4 hb hb2 hb3 hb4 allS k1 k2 k3 q3
  go_wp2
  exact bodyPost_ret (v := .tuple #[.agg #[.int .u64 z0, .int .u64 z1, .int .u64 z2, .int .u64 z3, .int .u64 z4, .int .u64 z5, .int .u64 z6, .int .u64 z7], .int .i64 ee]) (by simp [results, Tryz.results25, go_sem, y0, y1, y2, y3, y4, y5, y6, y7, hsz]) rfl ⟨_, rfl, rfl, below_set8 hB (by omega) _ _ _ _ _ _ _ _⟩
end Go.Proofs.YtedhjlkidcojhaaGreat
