/-
  The reference's Gcd; its Parts and Divisor, said of numbers of any length.
-/
import Derived.Test.YtedhjlkidcojhaaGreatMYF
import Derived.Test.YtedhjlkidcojhaaGreatMLFb
set_option linter.all false
namespace Go.Proofs.YtedhjlkidcojhaaGreat
open Go Go.Rx Go.RowKit Go.Big
attribute [local instance] noAv
theorem heapT3 (w : World) (o1 o2 o3 : Obj) : (((w.alloc o1).alloc o2).alloc o3).heap[w.heap.size]? = some o1 ∧ (((w.alloc o1).alloc o2).alloc o3).heap[w.heap.size + 1]? = some o2 ∧ (((w.alloc o1).alloc o2).alloc o3).heap[w.heap.size + 1 + 1]? = some o3 := heapT3' w o1 o2 o3
theorem abs_val {p : Bool} {xs : List Int} (g : good xs) : (sgz p (val xs)).natAbs = (val xs).toNat := by
  have := (val_bounds g).1
  cases p
  · rw [sgz_f]; omega
  · rw [sgz_t]; omega
/-- Divisor. -/
theorem divisor_l {w : World} {u v : Value} {x y : Int} (h1 : LongV w u x) (h2 : LongV w v y) (k1 : small x) (k2 : small y) : Calls Tryz.prog 61 #[u, v] w (Gets (fun w' r => LongV w' r ((Nat.gcd x.natAbs y.natAbs : Nat) : Int)) w) := by
  obtain ⟨p, s, xs, rfl, r1, g1, n1, z1, rfl⟩ := h1
  obtain ⟨q, t, ys, rfl, r2, g2, n2, z2, rfl⟩ := h2
  rw [abs_val g1, abs_val g2]
  exact Divisor_c r1 r2 g1 g2 n1 n2 (small_len g1 n1 rfl k1) (small_len g2 n2 rfl k2)
/-- Parts. -/
theorem parts_l {w : World} {u v : Value} {x y : Int} (h1 : LongV w u x) (h2 : LongV w v y) (k1 : small x) (k2 : small y) (h0 : y ≠ 0) : Calls Tryz.prog 59 #[u, v] w (Gets (fun w' r => ∃ a b, r = .tuple #[a, b] ∧ LongV w' a (x / y) ∧ LongV w' b (x % y)) w) := by
  obtain ⟨p, s, xs, rfl, r1, g1, n1, z1, rfl⟩ := h1
  obtain ⟨q, t, ys, rfl, r2, g2, n2, z2, rfl⟩ := h2
  refine Parts_c r1 r2 g1 g2 n1 n2 (small_len g1 n1 rfl k1) (small_len g2 n2 rfl k2) ?_
  rcases Nat.eq_zero_or_pos ys.length with h | h
  · exfalso; apply h0
    rw [List.eq_nil_of_length_eq_zero h]
    cases q <;> rfl
  · exact h
theorem small_gcd {x y : Int} (hx : fit x) (hy : fit y) : small ((Nat.gcd x.natAbs y.natAbs : Nat) : Int) := by
  have h1 := small_fit hx
  have h2 := small_fit hy
  unfold small at *
  rcases Nat.eq_zero_or_pos x.natAbs with h | h
  · rw [h, Nat.gcd_zero_left]; omega
  · have := Nat.le_of_dvd h (Nat.gcd_dvd_left x.natAbs y.natAbs)
    omega
set_option maxHeartbeats 4000000 in
set_option maxRecDepth 100000 in
theorem refGcd_c {w : World} {x y : Int} (hx : fit x) (hy : fit y) : Calls Tryz.prog 29 #[W x, W y] w (Gets (fun _ r => r = resV (((Nat.gcd x.natAbs y.natAbs : Nat) : Int)) (fit (((Nat.gcd x.natAbs y.natAbs : Nat) : Int)))) w) := by
  obtain ⟨a0, a1, a2, a3, a4, a5, a6, a7, hg, rfl, he⟩ := words_of hx
  obtain ⟨c0, c1, c2, c3, c4, c5, c6, c7, hg', rfl, he'⟩ := words_of hy
  rw [he, he']
  have hs := small_fit hx
  have hs' := small_fit hy
  have hz := small_gcd hx hy
  have hin := fun W => in_c (w := W) a0 a1 a2 a3 a4 a5 a6 a7 hg
  have hin' := fun W => in_c (w := W) c0 c1 c2 c3 c4 c5 c6 c7 hg'
  generalize hv : wint [a0, a1, a2, a3, a4, a5, a6, a7] = x at *
  generalize hv' : wint [c0, c1, c2, c3, c4, c5, c6, c7] = y at *
  obtain ⟨rr, ee, hr, hres⟩ := res_words (((Nat.gcd x.natAbs y.natAbs : Nat) : Int))
  obtain ⟨z0, z1, z2, z3, z4, z5, z6, z7, -, -, hd⟩ := words_of hr
  have hout : ∀ W u, LongV W u (((Nat.gcd x.natAbs y.natAbs : Nat) : Int)) → Calls Tryz.prog 41 #[u] W (Gets (fun _ r => r = .tuple #[.agg #[.int .u64 z0, .int .u64 z1, .int .u64 z2, .int .u64 z3, .int .u64 z4, .int .u64 z5, .int .u64 z6, .int .u64 z7], .int .i64 ee]) W) := fun W u hu => by
    have := out_W hu hz
    rw [hres, hd] at this
    exact this
  rw [hres, hd]
  clear he hv hx he' hv' hy hres hd hr
  obtain ⟨k1, k2, k3⟩ := heapT3 w (.cells #[.int .u64 a0, .int .u64 a1, .int .u64 a2, .int .u64 a3, .int .u64 a4, .int .u64 a5, .int .u64 a6, .int .u64 a7] 24) (.cells #[.int .u64 c0, .int .u64 c1, .int .u64 c2, .int .u64 c3, .int .u64 c4, .int .u64 c5, .int .u64 c6, .int .u64 c7] 24) (.cells #[.int .u64 0, .int .u64 0, .int .u64 0, .int .u64 0, .int .u64 0, .int .u64 0, .int .u64 0, .int .u64 0] 24)
  have bw : Below w.heap.size w (((w.alloc (.cells #[.int .u64 a0, .int .u64 a1, .int .u64 a2, .int .u64 a3, .int .u64 a4, .int .u64 a5, .int .u64 a6, .int .u64 a7] 24)).alloc (.cells #[.int .u64 c0, .int .u64 c1, .int .u64 c2, .int .u64 c3, .int .u64 c4, .int .u64 c5, .int .u64 c6, .int .u64 c7] 24)).alloc (.cells #[.int .u64 0, .int .u64 0, .int .u64 0, .int .u64 0, .int .u64 0, .int .u64 0, .int .u64 0, .int .u64 0] 24)) := (((Below.refl _ _).alloc (Nat.le_refl _) _).alloc (by simp) _).alloc (by simp; omega) _
  have hbs : (((w.alloc (.cells #[.int .u64 a0, .int .u64 a1, .int .u64 a2, .int .u64 a3, .int .u64 a4, .int .u64 a5, .int .u64 a6, .int .u64 a7] 24)).alloc (.cells #[.int .u64 c0, .int .u64 c1, .int .u64 c2, .int .u64 c3, .int .u64 c4, .int .u64 c5, .int .u64 c6, .int .u64 c7] 24)).alloc (.cells #[.int .u64 0, .int .u64 0, .int .u64 0, .int .u64 0, .int .u64 0, .int .u64 0, .int .u64 0, .int .u64 0] 24)).heap.size = w.heap.size + 1 + 1 + 1 := by simp
  go_enter Tryz.func29, Tryz.ntmps29
  go_wp2
  generalize (((w.alloc (.cells #[.int .u64 a0, .int .u64 a1, .int .u64 a2, .int .u64 a3, .int .u64 a4, .int .u64 a5, .int .u64 a6, .int .u64 a7] 24)).alloc (.cells #[.int .u64 c0, .int .u64 c1, .int .u64 c2, .int .u64 c3, .int .u64 c4, .int .u64 c5, .int .u64 c6, .int .u64 c7] 24)).alloc (.cells #[.int .u64 0, .int .u64 0, .int .u64 0, .int .u64 0, .int .u64 0, .int .u64 0, .int .u64 0, .int .u64 0] 24)) = wb at *
  have allS : ∀ W, Below (w.heap.size + 1 + 1) wb W → W.cell? ⟨w.heap.size, 0, none⟩ = some (.int .u64 a0) ∧ W.cell? ⟨w.heap.size, 1, none⟩ = some (.int .u64 a1) ∧ W.cell? ⟨w.heap.size, 2, none⟩ = some (.int .u64 a2) ∧ W.cell? ⟨w.heap.size, 3, none⟩ = some (.int .u64 a3) ∧ W.cell? ⟨w.heap.size, 4, none⟩ = some (.int .u64 a4) ∧ W.cell? ⟨w.heap.size, 5, none⟩ = some (.int .u64 a5) ∧ W.cell? ⟨w.heap.size, 6, none⟩ = some (.int .u64 a6) ∧ W.cell? ⟨w.heap.size, 7, none⟩ = some (.int .u64 a7) ∧ W.cell? ⟨w.heap.size + 1, 0, none⟩ = some (.int .u64 c0) ∧ W.cell? ⟨w.heap.size + 1, 1, none⟩ = some (.int .u64 c1) ∧ W.cell? ⟨w.heap.size + 1, 2, none⟩ = some (.int .u64 c2) ∧ W.cell? ⟨w.heap.size + 1, 3, none⟩ = some (.int .u64 c3) ∧ W.cell? ⟨w.heap.size + 1, 4, none⟩ = some (.int .u64 c4) ∧ W.cell? ⟨w.heap.size + 1, 5, none⟩ = some (.int .u64 c5) ∧ W.cell? ⟨w.heap.size + 1, 6, none⟩ = some (.int .u64 c6) ∧ W.cell? ⟨w.heap.size + 1, 7, none⟩ = some (.int .u64 c7) := fun W hW => by
    have q1 := (hW.block w.heap.size (by omega)).trans k1
    have q2 := (hW.block (w.heap.size + 1) (by omega)).trans k2
    exact ⟨(cellOf (j := 0) q1).trans rfl, (cellOf (j := 1) q1).trans rfl, (cellOf (j := 2) q1).trans rfl, (cellOf (j := 3) q1).trans rfl, (cellOf (j := 4) q1).trans rfl, (cellOf (j := 5) q1).trans rfl, (cellOf (j := 6) q1).trans rfl, (cellOf (j := 7) q1).trans rfl, (cellOf (j := 0) q2).trans rfl, (cellOf (j := 1) q2).trans rfl, (cellOf (j := 2) q2).trans rfl, (cellOf (j := 3) q2).trans rfl, (cellOf (j := 4) q2).trans rfl, (cellOf (j := 5) q2).trans rfl, (cellOf (j := 6) q2).trans rfl, (cellOf (j := 7) q2).trans rfl⟩
  have hbs' := Lib.hid hbs
  have x0 : Below wb.heap.size wb wb.drew := (Below.refl _ _).drew
  have lo : w.heap.size + 1 + 1 ≤ wb.heap.size := by omega
  have lo' : w.heap.size + 1 + 1 < wb.heap.size := by omega
  clear hbs
  go_region_held3 (fun w' => w'.cell? ⟨w.heap.size, 0, none⟩ = some (.int .u64 a0) ∧ w'.cell? ⟨w.heap.size, 1, none⟩ = some (.int .u64 a1) ∧ w'.cell? ⟨w.heap.size, 2, none⟩ = some (.int .u64 a2) ∧ w'.cell? ⟨w.heap.size, 3, none⟩ = some (.int .u64 a3) ∧ w'.cell? ⟨w.heap.size, 4, none⟩ = some (.int .u64 a4) ∧ w'.cell? ⟨w.heap.size, 5, none⟩ = some (.int .u64 a5) ∧ w'.cell? ⟨w.heap.size, 6, none⟩ = some (.int .u64 a6) ∧ w'.cell? ⟨w.heap.size, 7, none⟩ = some (.int .u64 a7) ∧ w'.cell? ⟨w.heap.size + 1, 0, none⟩ = some (.int .u64 c0) ∧ w'.cell? ⟨w.heap.size + 1, 1, none⟩ = some (.int .u64 c1) ∧ w'.cell? ⟨w.heap.size + 1, 2, none⟩ = some (.int .u64 c2) ∧ w'.cell? ⟨w.heap.size + 1, 3, none⟩ = some (.int .u64 c3) ∧ w'.cell? ⟨w.heap.size + 1, 4, none⟩ = some (.int .u64 c4) ∧ w'.cell? ⟨w.heap.size + 1, 5, none⟩ = some (.int .u64 c5) ∧ w'.cell? ⟨w.heap.size + 1, 6, none⟩ = some (.int .u64 c6) ∧ w'.cell? ⟨w.heap.size + 1, 7, none⟩ = some (.int .u64 c7))
    ((refine allS _ ?_; with_reducible first | exact x0.mono lo | exact x1.mono lo | exact x2.mono lo | exact x3.mono lo | exact x4.mono lo | exact below_set8 (x4.mono lo) (Nat.le_refl _) _ _ _ _ _ _ _ _))
    (first | (go_at_call 47; ((with_reducible refine (hin _).mono ?_)); rintro e w1 ⟨d, rfl, hd1, hb⟩; have x1 := next0 x0 hb) | (go_at_call 47; ((with_reducible refine (hin' _).mono ?_)); rintro e w2 ⟨d', rfl, hd2, hb2⟩; have x2 := next0 x1 hb2) | (go_at_call 61; ((with_reducible refine (divisor_l (hd1.below hb2) hd2 hs hs').mono ?_)); rintro e w3 ⟨r, rfl, hd3, hb3⟩; have x3 := next0 x2 hb3) | (go_at_call 41; ((with_reducible refine (hout _ _ hd3).mono ?_)); rintro e w4 ⟨r4, rfl, rfl, hb4⟩; have x4 := next0 x3 hb4; have q3 := (x4.block (w.heap.size + 1 + 1) lo').trans k3; obtain ⟨y0, y1, y2, y3, y4, y5, y6, y7, fz⟩ := eight_zero q3))
  have hB : Below w.heap.size w w4 := bw.trans (x4.mono (by omega))
  have hsz : w.heap.size + 1 + 1 < w4.heap.size := Nat.lt_of_lt_of_le lo' x4.size
  clear hin hin' hd1 hd2 hd3 hout x0 x1 x2 x3 x4 hb hb2 hb3 hb4 allS k1 k2 k3 q3
  go_wp2
  exact bodyPost_ret (v := .tuple #[.agg #[.int .u64 z0, .int .u64 z1, .int .u64 z2, .int .u64 z3, .int .u64 z4, .int .u64 z5, .int .u64 z6, .int .u64 z7], .int .i64 ee]) (by simp [results, Tryz.results29, go_sem, y0, y1, y2, y3, y4, y5, y6, y7, hsz]) rfl ⟨_, rfl, rfl, below_set8 hB (by omega) _ _ _ _ _ _ _ _⟩
end Go.Proofs.YtedhjlkidcojhaaGreat
