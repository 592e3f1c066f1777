/-
  The reference's Root, for every value.
-/
import Derived.Test.YtedhjlkidcojhaaMSD
set_option linter.all false
namespace Go.Proofs.Ytedhjlkidcojhaa
open Go Go.Rx Go.RowKit Go.Big
attribute [local instance] noAv
theorem root_ex : ∀ n : Nat, ∃ r : Nat, r * r ≤ n ∧ n < (r + 1) * (r + 1)
  | 0 => ⟨0, by omega, by omega⟩
  | n + 1 => by
    obtain ⟨r, h1, h2⟩ := root_ex n
    by_cases h : n + 1 < (r + 1) * (r + 1)
    · exact ⟨r, by omega, h⟩
    · refine ⟨r + 1, by omega, ?_⟩
      have : (r + 1 + 1) * (r + 1 + 1) = (r + 1) * (r + 1) + 2 * (r + 1) + 1 := by grind
      omega
theorem root_one {q z : Int} {r : Nat} (h0 : 0 ≤ q) (h1 : q * q ≤ z) (h2 : z < (q + 1) * (q + 1)) (h3 : ((r * r : Nat) : Int) ≤ z) (h4 : z < (((r + 1) * (r + 1) : Nat) : Int)) : q = r := by
  obtain ⟨k, rfl⟩ := Int.eq_ofNat_of_zero_le h0
  have e1 : ((k : Int) * (k : Int)) = ((k * k : Nat) : Int) := by simp
  have e2 : ((k : Int) + 1) * ((k : Int) + 1) = (((k + 1) * (k + 1) : Nat) : Int) := by simp
  rw [e1] at h1
  rw [e2] at h2
  have hk : k * k < (r + 1) * (r + 1) := by omega
  have hr : r * r < (k + 1) * (k + 1) := by omega
  have k1 : k < r + 1 := by
    rcases Nat.lt_or_ge k (r + 1) with h | h
    · exact h
    · have := Nat.mul_le_mul h h; omega
  have k2 : r < k + 1 := by
    rcases Nat.lt_or_ge r (k + 1) with h | h
    · exact h
    · have := Nat.mul_le_mul h h; omega
  omega
set_option maxHeartbeats 1600000 in
set_option maxRecDepth 100000 in
theorem refRoot_neg {w : World} {x : Int} (hx : fit x) (h0 : x < 0) : Calls Try.prog 13 #[W x] w (Gets (fun _ r => r = .tuple #[W 0, .int .i64 2]) w) := by
  obtain ⟨a0, a1, a2, a3, a4, a5, a6, a7, hg, rfl, he⟩ := words_of hx
  rw [he, W0_cells]
  have hin := fun W => in_c (w := W) a0 a1 a2 a3 a4 a5 a6 a7 hg
  generalize hv : wint [a0, a1, a2, a3, a4, a5, a6, a7] = x at *
  clear he hv hx
  obtain ⟨k1, k2⟩ := heap2 w (.cells #[.int .u64 a0, .int .u64 a1, .int .u64 a2, .int .u64 a3, .int .u64 a4, .int .u64 a5, .int .u64 a6, .int .u64 a7] 24) (.cells #[.int .u64 0, .int .u64 0, .int .u64 0, .int .u64 0, .int .u64 0, .int .u64 0, .int .u64 0, .int .u64 0] 24)
  have bw : Below w.heap.size w ((w.alloc (.cells #[.int .u64 a0, .int .u64 a1, .int .u64 a2, .int .u64 a3, .int .u64 a4, .int .u64 a5, .int .u64 a6, .int .u64 a7] 24)).alloc (.cells #[.int .u64 0, .int .u64 0, .int .u64 0, .int .u64 0, .int .u64 0, .int .u64 0, .int .u64 0, .int .u64 0] 24)) := ((Below.refl _ _).alloc (Nat.le_refl _) _).alloc (by simp) _
  have hbs : ((w.alloc (.cells #[.int .u64 a0, .int .u64 a1, .int .u64 a2, .int .u64 a3, .int .u64 a4, .int .u64 a5, .int .u64 a6, .int .u64 a7] 24)).alloc (.cells #[.int .u64 0, .int .u64 0, .int .u64 0, .int .u64 0, .int .u64 0, .int .u64 0, .int .u64 0, .int .u64 0] 24)).heap.size = w.heap.size + 1 + 1 := by simp
  go_enter Try.func13, Try.ntmps13
  go_wp2_with fail
  generalize ((w.alloc (.cells #[.int .u64 a0, .int .u64 a1, .int .u64 a2, .int .u64 a3, .int .u64 a4, .int .u64 a5, .int .u64 a6, .int .u64 a7] 24)).alloc (.cells #[.int .u64 0, .int .u64 0, .int .u64 0, .int .u64 0, .int .u64 0, .int .u64 0, .int .u64 0, .int .u64 0] 24)) = wb at *
  refine (hin _).mono ?_
  rintro e w1 ⟨d, rfl, hd, hb⟩
  obtain ⟨b1, s1, zs1, rfl, hr1, g1, n1, p1, e1⟩ := hd
  obtain ⟨sa1, sc1, rfl, _⟩ := hr1.len
  have hb1 : b1 = true := by
    cases b1 with
    | true => rfl
    | false => have := (val_bounds g1).1; rw [sgz_f] at e1; omega
  subst hb1
  have x1 := next0 (Below.refl wb.heap.size wb) hb
  have hsz : w.heap.size + 1 < w1.heap.size := by have := x1.size; omega
  obtain ⟨y0, y1, y2, y3, y4, y5, y6, y7, fz⟩ := eight_zero ((x1.block (w.heap.size + 1) (by omega)).trans k2)
  have hW : Below w.heap.size w w1 := bw.trans (x1.mono bw.size)
  clear hin hr1 e1 hb p1
  go_wp2
  exact bodyPost_ret (v := .tuple #[.agg #[.int .u64 0, .int .u64 0, .int .u64 0, .int .u64 0, .int .u64 0, .int .u64 0, .int .u64 0, .int .u64 0], .int .i64 2]) (by simp [results, Try.results13, go_sem, y0, y1, y2, y3, y4, y5, y6, y7, hsz]) rfl ⟨_, rfl, rfl, (below_set8 hW (by omega) _ _ _ _ _ _ _ _).alloc (by simp; omega) _⟩
set_option maxHeartbeats 1600000 in
set_option maxRecDepth 100000 in
theorem refRoot_pos {w : World} {x : Int} {r : Nat} (hx : fit x) (h0 : 0 ≤ x) (h1 : ((r * r : Nat) : Int) ≤ x) (h2 : x < (((r + 1) * (r + 1) : Nat) : Int)) : Calls Try.prog 13 #[W x] w (Gets (fun _ v => v = outV (r : Int)) w) := by
  have hrx : (r : Int) ≤ x := by
    have : r ≤ r * r := by
      rcases Nat.eq_zero_or_pos r with h | h
      · omega
      · exact Nat.le_mul_of_pos_left r h
    omega
  have hfr : fit (r : Int) := by unfold fit P511 at hx ⊢; omega
  have hsr := small_fit hfr
  have hsx := small_fit hx
  obtain ⟨a0, a1, a2, a3, a4, a5, a6, a7, hg, rfl, he⟩ := words_of hx
  rw [he]
  have hin := fun W => in_c (w := W) a0 a1 a2 a3 a4 a5 a6 a7 hg
  generalize hv : wint [a0, a1, a2, a3, a4, a5, a6, a7] = x at *
  obtain ⟨z0, z1, z2, z3, z4, z5, z6, z7, -, -, hd⟩ := words_of hfr
  have hout : ∀ W u, LongV W u (r : Int) → Calls Try.prog 44 #[u] W (Gets (fun _ v => v = .tuple #[.agg #[.int .u64 z0, .int .u64 z1, .int .u64 z2, .int .u64 z3, .int .u64 z4, .int .u64 z5, .int .u64 z6, .int .u64 z7], .int .i64 0]) W) := fun W u hu => by
    have := out_W hu hsr
    unfold resV at this
    rw [if_pos hfr] at this
    unfold outV at this
    rw [hd] at this
    exact this
  unfold outV
  rw [hd]
  clear he hv hx hd
  obtain ⟨k1, k2⟩ := heap2 w (.cells #[.int .u64 a0, .int .u64 a1, .int .u64 a2, .int .u64 a3, .int .u64 a4, .int .u64 a5, .int .u64 a6, .int .u64 a7] 24) (.cells #[.int .u64 0, .int .u64 0, .int .u64 0, .int .u64 0, .int .u64 0, .int .u64 0, .int .u64 0, .int .u64 0] 24)
  have bw : Below w.heap.size w ((w.alloc (.cells #[.int .u64 a0, .int .u64 a1, .int .u64 a2, .int .u64 a3, .int .u64 a4, .int .u64 a5, .int .u64 a6, .int .u64 a7] 24)).alloc (.cells #[.int .u64 0, .int .u64 0, .int .u64 0, .int .u64 0, .int .u64 0, .int .u64 0, .int .u64 0, .int .u64 0] 24)) := ((Below.refl _ _).alloc (Nat.le_refl _) _).alloc (by simp) _
  have hbs : ((w.alloc (.cells #[.int .u64 a0, .int .u64 a1, .int .u64 a2, .int .u64 a3, .int .u64 a4, .int .u64 a5, .int .u64 a6, .int .u64 a7] 24)).alloc (.cells #[.int .u64 0, .int .u64 0, .int .u64 0, .int .u64 0, .int .u64 0, .int .u64 0, .int .u64 0, .int .u64 0] 24)).heap.size = w.heap.size + 1 + 1 := by simp
  go_enter Try.func13, Try.ntmps13
  go_wp2_with fail
  generalize ((w.alloc (.cells #[.int .u64 a0, .int .u64 a1, .int .u64 a2, .int .u64 a3, .int .u64 a4, .int .u64 a5, .int .u64 a6, .int .u64 a7] 24)).alloc (.cells #[.int .u64 0, .int .u64 0, .int .u64 0, .int .u64 0, .int .u64 0, .int .u64 0, .int .u64 0, .int .u64 0] 24)) = wb at *
  refine (hin _).mono ?_
  rintro e w1 ⟨d, rfl, hd, hb⟩
  obtain ⟨b1, s1, zs1, rfl, hr1, g1, n1, p1, e1⟩ := hd
  obtain ⟨sa1, sc1, rfl, _⟩ := hr1.len
  have hb1 : b1 = false := by
    cases b1 with
    | false => rfl
    | true => have := sign_t g1 n1 (p1 rfl) e1; omega
  subst hb1
  have hl := small_len g1 n1 e1 hsx
  rw [sgz_f] at e1
  have x1 := next0 (Below.refl wb.heap.size wb) hb
  have x5 := (x1.alloc x1.size (.cells #[.bool false, .slice sa1 zs1.length sc1] 75))
  have hr5 := hr1.alloc (.cells #[.bool false, .slice sa1 zs1.length sc1] 75)
  clear hin hr1 hb p1 x1
  go_wp2_with fail
  generalize w1.alloc (.cells #[.bool false, .slice sa1 zs1.length sc1] 75) = w5 at *
  refine (floor_c hr5 g1 n1 e1 hl).mono ?_
  rintro e w6 ⟨v6, rfl, ⟨q, hq, q0, q1, q2⟩, hb6⟩
  obtain rfl := root_one q0 q1 q2 h1 h2
  have x6 := next0 x5 hb6
  go_wp2_with fail
  refine (hout _ _ hq).mono ?_
  rintro e w7 ⟨v7, rfl, rfl, hb7⟩
  have x7 := next0 x6 hb7
  obtain ⟨y0, y1, y2, y3, y4, y5, y6, y7, fz⟩ := eight_zero ((x7.block (w.heap.size + 1) (by omega)).trans k2)
  have hW : Below w.heap.size w w7 := bw.trans (x7.mono bw.size)
  have hsz : w.heap.size + 1 < w7.heap.size := by have := x7.size; omega
  clear hout hr5 e1 hq q1 q2 h1 h2 x5 x6 x7 hb6 hb7
  go_wp2
  exact bodyPost_ret (v := .tuple #[.agg #[.int .u64 z0, .int .u64 z1, .int .u64 z2, .int .u64 z3, .int .u64 z4, .int .u64 z5, .int .u64 z6, .int .u64 z7], .int .i64 0]) (by simp [results, Try.results13, go_sem, y0, y1, y2, y3, y4, y5, y6, y7]) rfl ⟨_, rfl, rfl, below_set8 hW (by omega) _ _ _ _ _ _ _ _⟩
end Go.Proofs.Ytedhjlkidcojhaa
