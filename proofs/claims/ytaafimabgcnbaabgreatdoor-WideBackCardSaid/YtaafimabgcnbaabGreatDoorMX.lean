/-
  Div of package wide, for every two wide integers.
  Div of package wide, for every two wide integers: whole.
-/
import Derived.Test.YtaafimabgcnbaabGreatDoorMW
import Derived.Test.YtaafimabgcnbaabGreatDoorMT
import Derived.Test.YtaafimabgcnbaabGreatDoorMLFb
set_option linter.all false
namespace Go.Proofs.YtaafimabgcnbaabGreatDoor
open Go Go.Rx Go.RowKit Go.Big
section
attribute [local instance] noAv
theorem eq8_zero (z0 z1 z2 z3 z4 z5 z6 z7 : Int) (w : World) : (Op.equalIn 10000 59 (.agg #[Value.int .u64 z0, Value.int .u64 z1, Value.int .u64 z2, Value.int .u64 z3, Value.int .u64 z4, Value.int .u64 z5, Value.int .u64 z6, Value.int .u64 z7]) (.agg #[Value.int .u64 0, Value.int .u64 0, Value.int .u64 0, Value.int .u64 0, Value.int .u64 0, Value.int .u64 0, Value.int .u64 0, Value.int .u64 0])).run Tryz.prog w = .ok ((z0 == 0) && ((z1 == 0) && ((z2 == 0) && ((z3 == 0) && ((z4 == 0) && ((z5 == 0) && ((z6 == 0) && ((z7 == 0) && true)))))))) w := by
  have h : aggEq Tryz.prog 59 ([z0, z1, z2, z3, z4, z5, z6, z7].map fun a => C.v (.int .u64 a)) (([0, 0, 0, 0, 0, 0, 0, 0] : List Int).map fun a => C.v (.int .u64 a)) = some ((z0 == 0) && ((z1 == 0) && ((z2 == 0) && ((z3 == 0) && ((z4 == 0) && ((z5 == 0) && ((z6 == 0) && ((z7 == 0) && true)))))))) := by kernel_rfl
  exact (aggEq_sound (ρ := noLoc (lets0 fun _ => 0)) h (all2_v _) (all2_v _) w).1
set_option maxHeartbeats 4000000 in
set_option maxRecDepth 100000 in
theorem isZero_c (z0 z1 z2 z3 z4 z5 z6 z7 : Int) (w : World) : Calls Tryz.prog 58 #[.agg #[.int .u64 z0, .int .u64 z1, .int .u64 z2, .int .u64 z3, .int .u64 z4, .int .u64 z5, .int .u64 z6, .int .u64 z7]] w (Gets (fun _ r => r = .bool ((z0 == 0) && ((z1 == 0) && ((z2 == 0) && ((z3 == 0) && ((z4 == 0) && ((z5 == 0) && ((z6 == 0) && ((z7 == 0) && true))))))))) w) := by
  have hE := fun w => eq8_zero z0 z1 z2 z3 z4 z5 z6 z7 w
  generalize hb : ((z0 == 0) && ((z1 == 0) && ((z2 == 0) && ((z3 == 0) && ((z4 == 0) && ((z5 == 0) && ((z6 == 0) && ((z7 == 0) && true)))))))) = b at *
  clear hb
  go_enter Tryz.func58, Tryz.ntmps58
  go_wp2
  go_ret
  exact ⟨_, rfl, rfl, (Below.refl _ w).alloc (Nat.le_refl _) _⟩
end
theorem f_isZero (n : Nat) (hn : n < 13407807929942597099574024998205846127479365820592393377723561443721764030073546976801874298166903427690031858186486050853753882811946569946433649006084096) : Gives Tryz.prog 58 [magV n] (.bool (decide (n = 0))) := by
  refine gives_of (enters_of Tryz.func58 (by kernel_rfl) rfl) fun w => ?_
  have h := isZero_c (dig n 0) (dig n 1) (dig n 2) (dig n 3) (dig n 4) (dig n 5) (dig n 6) (dig n 7) w
  refine h.mono fun e w' hr => ?_
  obtain ⟨r, rfl, rfl, hB⟩ := hr
  refine ⟨_, rfl, ?_, hB⟩
  congr 1
  have hv : wval [(dig n 0 : Int), dig n 1, dig n 2, dig n 3, dig n 4, dig n 5, dig n 6, dig n 7] = n := digs_val hn
  have hz := wval_zero_iff (digs_good n)
  rw [show wval (digs n) = n from hv] at hz
  rw [Bool.eq_iff_iff, decide_eq_true_eq]
  have e : (n = 0) ↔ ((n : Int) = 0) := by omega
  rw [e, ← hz]
  simp only [digs, List.mem_cons, List.not_mem_nil, or_false, forall_eq_or_imp, forall_eq, Bool.and_eq_true, beq_iff_eq, Bool.and_true, and_true]
/-- The words of a number that one word holds. -/
def lowV (i : Nat) : V1 := .agg [.ex .u64 (.inp .u64 i), .v (.int .u64 0), .v (.int .u64 0), .v (.int .u64 0), .v (.int .u64 0), .v (.int .u64 0), .v (.int .u64 0), .v (.int .u64 0)]
theorem dig_low {r : Nat} (h : r < 18446744073709551616) : dig r 0 = r ∧ dig r 1 = 0 ∧ dig r 2 = 0 ∧ dig r 3 = 0 ∧ dig r 4 = 0 ∧ dig r 5 = 0 ∧ dig r 6 = 0 ∧ dig r 7 = 0 := by
  have h1 : r < 2 ^ (64 * 1) := by rw [show (2 : Nat) ^ (64 * 1) = 18446744073709551616 by decide]; exact h
  refine ⟨?_, dig_high h1 (by decide), dig_high h1 (by decide), dig_high h1 (by decide), dig_high h1 (by decide), dig_high h1 (by decide), dig_high h1 (by decide), dig_high h1 (by decide)⟩
  unfold dig
  simp only [Nat.mul_zero, Nat.pow_zero, Nat.div_one]
  omega
theorem val_lowV (f : Nat → Nat) (k : Nat) (h : f k < 18446744073709551616) : val1 (sigN f) (lowV (8 * k + 0)) = magV (f k) := by
  obtain ⟨_, d1, d2, d3, d4, d5, d6, d7⟩ := dig_low h
  simp only [lowV, val1, valC, magV, List.map_cons, List.map_nil, inp_sigN f k 0 (by decide), d1, d2, d3, d4, d5, d6, d7]
  rfl
theorem divide1_run (σ : Nat → Int) : runs σ [⟨72, [inN 1], .s (i1 1)⟩, ⟨56, [inN 0, x1 (.inp .u64 8)], .tup [inN 2, x1 (.inp .u64 24)]⟩] [] ⟨70, [inN 0, inN 1], .tup [inN 2, lowV 24]⟩ 200 = true := by kernel_rfl
/-- divideByWord. -/
theorem f_divWordG (m n : Nat) (hm : m < 13407807929942597099574024998205846127479365820592393377723561443721764030073546976801874298166903427690031858186486050853753882811946569946433649006084096) (hn : 0 < n ∧ n < 18446744073709551616) : Gives Tryz.prog 56 [magV m, .int .u64 (n : Int)] (.tuple #[magV (m / n), .int .u64 ((m % n : Nat) : Int)]) := by
  obtain ⟨L, hL, hl⟩ := has_len m 8 (by rw [p2_eight]; exact hm)
  refine gives_of (enters_of Tryz.func56 (by kernel_rfl) rfl) fun w => ?_
  refine (divWord_c (n := (n : Int)) hL (digs_good m) (digs_take hL hl.1) (by omega) (gives_gets (f_length m L hL hl))).mono fun e w' hr => ?_
  obtain ⟨r, rfl, ⟨qs, R, hq, hg, r0, r1, hv, rfl⟩, hB⟩ := hr
  refine ⟨_, rfl, ?_, hB⟩
  have hvm : wval [(dig m 0 : Int), dig m 1, dig m 2, dig m 3, dig m 4, dig m 5, dig m 6, dig m 7] = m := digs_val hm
  rw [hvm] at hv
  obtain ⟨a1, a2⟩ := quot_of (m := (m : Int)) (n := (n : Int)) (q := wval qs) (r := R) (by omega) r0 r1
  have e1 : ((m / n : Nat) : Int) = wval qs := by rw [a1]; rfl
  rw [mag_words hq hg e1, a2]
  rfl
/-- (magnitude).divide. -/
theorem f_divideG (m n : Nat) (hm : m < 13407807929942597099574024998205846127479365820592393377723561443721764030073546976801874298166903427690031858186486050853753882811946569946433649006084096) (hn : 0 < n ∧ n < 13407807929942597099574024998205846127479365820592393377723561443721764030073546976801874298166903427690031858186486050853753882811946569946433649006084096) : Gives Tryz.prog 70 [magV m, magV n] (.tuple #[magV (m / n), magV (m % n)]) := by
  by_cases h1 : n < 18446744073709551616
  · have hr : m % n < 18446744073709551616 := Nat.lt_trans (Nat.mod_lt _ hn.1) h1
    have hl : hasLen n 1 := by
      refine ⟨by rw [show (2 : Nat) ^ (64 * 1) = 18446744073709551616 by decide]; exact h1, fun _ => ?_⟩
      rw [Nat.sub_self, (dig_low h1).1]
      omega
    have k1 : RowGives Tryz.prog (sigN (lst [m, n, m / n, m % n])) ⟨72, [inN 1], .s (i1 1)⟩ := by
      refine ⟨rfl, ?_⟩
      simp only [List.map_cons, List.map_nil, val_inN, valV_s, val_i1]
      exact f_length n 1 (by decide) hl
    have k2 : RowGives Tryz.prog (sigN (lst [m, n, m / n, m % n])) ⟨56, [inN 0, x1 (.inp .u64 8)], .tup [inN 2, x1 (.inp .u64 24)]⟩ := by
      refine ⟨rfl, ?_⟩
      have e1 := inp_sigN (lst [m, n, m / n, m % n]) 1 0 (by decide)
      have e3 := inp_sigN (lst [m, n, m / n, m % n]) 3 0 (by decide)
      rw [show lst [m, n, m / n, m % n] 1 = n from rfl, (dig_low h1).1] at e1
      rw [show lst [m, n, m / n, m % n] 3 = m % n from rfl, (dig_low hr).1] at e3
      simp only [List.map_cons, List.map_nil, val_inN, valV_tup2, val_x1]
      rw [show (8 : Nat) = 8 * 1 + 0 from rfl, show (24 : Nat) = 8 * 3 + 0 from rfl, e1, e3]
      exact f_divWordG m n hm ⟨hn.1, h1⟩
    have := run_gives _ _ [] (more_row k1 (one_row k2)) no_test _ 200 divide1_run
    simp only [List.map_cons, List.map_nil, val_inN, valV_tup2] at this
    rw [show (24 : Nat) = 8 * 3 + 0 from rfl, val_lowV (lst [m, n, m / n, m % n]) 3 hr] at this
    exact this
  · obtain ⟨L, hL, hl⟩ := has_len m 8 (by rw [p2_eight]; exact hm)
    obtain ⟨S, hS, hs⟩ := has_len n 8 (by rw [p2_eight]; exact hn.2)
    have hS2 : 2 ≤ S := by
      rcases Nat.lt_or_ge S 2 with h | h
      · exfalso
        have h2 := hs.1
        have h3 : 2 ^ (64 * S) ≤ 2 ^ (64 * 1) := Nat.pow_le_pow_right (by decide) (by omega)
        rw [show (2 : Nat) ^ (64 * 1) = 18446744073709551616 by decide] at h3
        omega
      · exact h
    obtain ⟨s1, e1⟩ : ∃ s1, S = s1 + 1 := ⟨S - 1, by omega⟩
    obtain ⟨s2, e2⟩ : ∃ s2, S = s2 + 2 := ⟨S - 2, by omega⟩
    have htop : (digs n).getD s1 0 ≠ 0 := by
      have h2 := hs.2 (by omega)
      rw [show S - 1 = s1 by omega] at h2
      have h3 : s1 < 8 := by omega
      have h4 : (digs n).getD s1 0 = (dig n s1 : Int) := by
        match s1, h3 with
        | 0, _ => rfl
        | 1, _ => rfl
        | 2, _ => rfl
        | 3, _ => rfl
        | 4, _ => rfl
        | 5, _ => rfl
        | 6, _ => rfl
        | 7, _ => rfl
      rw [h4]
      omega
    refine gives_of (enters_of Tryz.func70 (by kernel_rfl) rfl) fun w => ?_
    refine (divide_c e1 e2 hS hL (digs_good m) (digs_good n) (digs_take hL hl.1) (digs_take hS hs.1) htop (gives_gets (f_length m L hL hl)) (gives_gets (f_length n S hS hs))).mono fun e w' hr => ?_
    obtain ⟨r, rfl, ⟨qs, rs, hq, hqg, hr, hrg, v1, v2, rfl⟩, hB⟩ := hr
    refine ⟨_, rfl, ?_, hB⟩
    have hvm : wval [(dig m 0 : Int), dig m 1, dig m 2, dig m 3, dig m 4, dig m 5, dig m 6, dig m 7] = m := digs_val hm
    have hvn : wval [(dig n 0 : Int), dig n 1, dig n 2, dig n 3, dig n 4, dig n 5, dig n 6, dig n 7] = n := digs_val hn.2
    rw [hvm, hvn] at v1 v2
    rw [mag_words hq hqg (k := m / n) (by rw [v1]; rfl), mag_words hr hrg (k := m % n) (by rw [v2]; rfl)]
theorem overA_run (σ : Nat → Int) (c : Bool) : runs σ [⟨70, [inN 0, inN 1], .tup [inN 2, inN 3]⟩] [] ⟨48, [sgN 0 false, sgN 1 c], .tup [sgN 2 (false != c), inN 3]⟩ 200 = true := by
  cases c <;> kernel_rfl
theorem overB_run (σ : Nat → Int) (c : Bool) : runs σ [⟨70, [inN 0, inN 1], .tup [inN 2, inN 3]⟩, ⟨58, [inN 3], .s (b1 true)⟩] [] ⟨48, [sgN 0 true, sgN 1 c], .tup [sgN 2 (true != c), inN 3]⟩ 200 = true := by
  cases c <;> kernel_rfl
theorem overC_run (σ : Nat → Int) (c : Bool) : runs σ [⟨70, [inN 0, inN 1], .tup [inN 2, inN 3]⟩, ⟨58, [inN 3], .s (b1 false)⟩, ⟨71, [inN 2, mag 1], .tup [inN 4, b1 true]⟩, ⟨55, [inN 1, inN 3], .s (inN 5)⟩] [] ⟨48, [sgN 0 true, sgN 1 c], .tup [sgN 4 (true != c), inN 5]⟩ 200 = true := by
  cases c <;> kernel_rfl
/-- The sizes of quotient and remainder. -/
def overQ (m n : Nat) (b : Bool) : Nat := if b = true ∧ m % n ≠ 0 then m / n + 1 else m / n
def overM (m n : Nat) (b : Bool) : Nat := if b = true ∧ m % n ≠ 0 then n - m % n else m % n
theorem f_overG (m n : Nat) (b c : Bool) (hm : m < 13407807929942597099574024998205846127479365820592393377723561443721764030073546976801874298166903427690031858186486050853753882811946569946433649006084096) (hn : 0 < n ∧ n < 13407807929942597099574024998205846127479365820592393377723561443721764030073546976801874298166903427690031858186486050853753882811946569946433649006084096) : Gives Tryz.prog 48 [sgV m b, sgV n c] (.tuple #[sgV (overQ m n b) (b != c), magV (overM m n b)]) := by
  have r1 : ∀ l, RowGives Tryz.prog (sigN (lst (m :: n :: m / n :: m % n :: l))) ⟨70, [inN 0, inN 1], .tup [inN 2, inN 3]⟩ := fun l => by
    refine ⟨rfl, ?_⟩
    simp only [List.map_cons, List.map_nil, val_inN, valV_tup2]
    exact f_divideG m n hm hn
  have hr : m % n < n := Nat.mod_lt _ hn.1
  have r2 : ∀ l z, decide (m % n = 0) = z → RowGives Tryz.prog (sigN (lst (m :: n :: m / n :: m % n :: l))) ⟨58, [inN 3], .s (b1 z)⟩ := fun l z h => by
    refine ⟨rfl, ?_⟩
    simp only [List.map_cons, List.map_nil, val_inN, valV_s, val_b1]
    rw [← h]
    exact f_isZero (m % n) (by omega)
  cases b with
  | false =>
    have := run_gives _ _ [] (one_row (r1 [])) no_test _ 200 (fun σ => overA_run σ c)
    simp only [List.map_cons, List.map_nil, valV_tup2, val_inN, val_sgN] at this
    unfold overQ overM
    rw [if_neg (fun h => absurd h.1 (by decide)), if_neg (fun h => absurd h.1 (by decide))]
    exact this
  | true =>
    by_cases h0 : m % n = 0
    · have := run_gives _ _ [] (more_row (r1 []) (one_row (r2 [] true (decide_eq_true h0)))) no_test _ 200 (fun σ => overB_run σ c)
      simp only [List.map_cons, List.map_nil, valV_tup2, val_inN, val_sgN] at this
      unfold overQ overM
      rw [if_neg (fun h => h.2 h0), if_neg (fun h => h.2 h0)]
      exact this
    · have hq : m / n + 1 < 13407807929942597099574024998205846127479365820592393377723561443721764030073546976801874298166903427690031858186486050853753882811946569946433649006084096 := by
        have h1 : m / n ≤ m := Nat.div_le_self _ _
        have h2 : m / n * n ≤ m := Nat.div_mul_le_self _ _
        have h3 : 2 ≤ n := by
          rcases Nat.lt_or_ge n 2 with h | h
          · have : n = 1 := by omega
            subst this
            exact absurd (Nat.mod_one m) h0
          · exact h
        have h4 : m / n * 2 ≤ m / n * n := Nat.mul_le_mul_left _ h3
        omega
      have r3 : RowGives Tryz.prog (sigN (lst [m, n, m / n, m % n, m / n + 1, n - m % n])) ⟨71, [inN 2, mag 1], .tup [inN 4, b1 true]⟩ := by
        refine ⟨rfl, ?_⟩
        simp only [List.map_cons, List.map_nil, val_inN, valV_tup2, val_mag, val_b1]
        have := f_sum (m / n) 1 (by omega) (by decide)
        rw [decide_eq_true hq] at this
        exact this
      have r4 : RowGives Tryz.prog (sigN (lst [m, n, m / n, m % n, m / n + 1, n - m % n])) ⟨55, [inN 1, inN 3], .s (inN 5)⟩ := by
        refine ⟨rfl, ?_⟩
        simp only [List.map_cons, List.map_nil, val_inN, valV_s]
        have := f_diff n (m % n) (by omega)
        rw [show magV (n + 13407807929942597099574024998205846127479365820592393377723561443721764030073546976801874298166903427690031858186486050853753882811946569946433649006084096 - m % n) = magV (n - m % n) from by rw [← magV_mod (n + 13407807929942597099574024998205846127479365820592393377723561443721764030073546976801874298166903427690031858186486050853753882811946569946433649006084096 - m % n), show (n + 13407807929942597099574024998205846127479365820592393377723561443721764030073546976801874298166903427690031858186486050853753882811946569946433649006084096 - m % n) % 13407807929942597099574024998205846127479365820592393377723561443721764030073546976801874298166903427690031858186486050853753882811946569946433649006084096 = n - m % n by omega]] at this
        exact this
      have := run_gives _ _ [] (more_row (r1 _) (more_row (r2 _ false (decide_eq_false h0)) (more_row r3 (one_row r4)))) no_test _ 200 (fun σ => overC_run σ c)
      simp only [List.map_cons, List.map_nil, valV_tup2, val_inN, val_sgN] at this
      unfold overQ overM
      rw [if_pos ⟨rfl, h0⟩, if_pos ⟨rfl, h0⟩]
      exact this
end Go.Proofs.YtaafimabgcnbaabGreatDoor
namespace Go.Proofs.YtaafimabgcnbaabGreatDoor
open Go Go.Rx Go.RowKit Go.Big
theorem div_zero_run (σ : Nat → Int) : runs σ [⟨11, [inN 1], .s (i1 0)⟩] [] ⟨23, [inN 0, inN 1], .tup [z8, z8, i1 7]⟩ 200 = true := by kernel_rfl
theorem div_ok_run (σ : Nat → Int) (b c : Bool) (r : Int) (h : r = -1 ∨ r = 1) : runs σ [⟨11, [inN 1], .s (i1 r)⟩, ⟨33, [inN 0], .s (sgN 2 b)⟩, ⟨33, [inN 1], .s (sgN 3 c)⟩, ⟨48, [sgN 2 b, sgN 3 c], .tup [sgN 4 (b != c), inN 5]⟩, ⟨32, [sgN 4 (b != c), b1 true], .tup [inN 6, i1 0]⟩] [] ⟨23, [inN 0, inN 1], .tup [inN 6, inN 5, i1 0]⟩ 200 = true := by
  rcases h with rfl | rfl <;> cases b <;> cases c <;> kernel_rfl
theorem div_big_run (σ : Nat → Int) (b c : Bool) (r : Int) (h : r = -1 ∨ r = 1) : runs σ [⟨11, [inN 1], .s (i1 r)⟩, ⟨33, [inN 0], .s (sgN 2 b)⟩, ⟨33, [inN 1], .s (sgN 3 c)⟩, ⟨48, [sgN 2 b, sgN 3 c], .tup [sgN 4 (b != c), inN 5]⟩, ⟨32, [sgN 4 (b != c), b1 true], .tup [z8, i1 6]⟩] [] ⟨23, [inN 0, inN 1], .tup [z8, z8, i1 6]⟩ 200 = true := by
  rcases h with rfl | rfl <;> cases b <;> cases c <;> kernel_rfl
theorem over_ok (x y : Int) (hy : y ≠ 0) : sg (overQ x.natAbs y.natAbs (decide (x < 0))) (decide (x < 0) != decide (y < 0)) = x / y ∧ (overM x.natAbs y.natAbs (decide (x < 0)) : Int) = x % y := by
  have hn : 0 < y.natAbs := Int.natAbs_pos.2 hy
  have h1 : ((x.natAbs / y.natAbs : Nat) : Int) * (y.natAbs : Int) + ((x.natAbs % y.natAbs : Nat) : Int) = x.natAbs := by
    have := Nat.div_add_mod x.natAbs y.natAbs
    rw [Nat.mul_comm] at this
    rw [← Int.natCast_mul, ← Int.natCast_add, this]
  have h2 : x.natAbs % y.natAbs < y.natAbs := Nat.mod_lt _ hn
  have key : ∀ (a q r : Int), q * (y.natAbs : Int) + r = a → 0 ≤ r → r < y.natAbs → q = a / (y.natAbs : Int) ∧ r = a % (y.natAbs : Int) := fun a q r h3 h4 h5 => quot_of h3 h4 h5
  have hpos : ∀ a : Int, a = x → ((overQ x.natAbs y.natAbs (decide (x < 0)) : Int) * (if x < 0 then -1 else 1)) = a / (y.natAbs : Int) ∧ (overM x.natAbs y.natAbs (decide (x < 0)) : Int) = a % (y.natAbs : Int) := fun a ha => by
    apply key
    · by_cases hx : x < 0
      · by_cases h0 : x.natAbs % y.natAbs = 0
        · have eQ : overQ x.natAbs y.natAbs (decide (x < 0)) = x.natAbs / y.natAbs := by unfold overQ; rw [if_neg (fun h => h.2 h0)]
          have eM : overM x.natAbs y.natAbs (decide (x < 0)) = x.natAbs % y.natAbs := by unfold overM; rw [if_neg (fun h => h.2 h0)]
          rw [eQ, eM, if_pos hx, h0]
          rw [h0] at h1
          rw [Int.mul_neg_one, Int.neg_mul]
          generalize ((x.natAbs / y.natAbs : Nat) : Int) * (y.natAbs : Int) = z at *
          omega
        · have eQ : overQ x.natAbs y.natAbs (decide (x < 0)) = x.natAbs / y.natAbs + 1 := by unfold overQ; rw [if_pos ⟨decide_eq_true hx, h0⟩]
          have eM : overM x.natAbs y.natAbs (decide (x < 0)) = y.natAbs - x.natAbs % y.natAbs := by unfold overM; rw [if_pos ⟨decide_eq_true hx, h0⟩]
          rw [eQ, eM, if_pos hx]
          rw [Int.mul_neg_one, Int.neg_mul, Int.natCast_add, Int.add_mul]
          generalize ((x.natAbs / y.natAbs : Nat) : Int) * (y.natAbs : Int) = z at *
          omega
      · have eQ : overQ x.natAbs y.natAbs (decide (x < 0)) = x.natAbs / y.natAbs := by unfold overQ; rw [if_neg (fun h => hx (of_decide_eq_true h.1))]
        have eM : overM x.natAbs y.natAbs (decide (x < 0)) = x.natAbs % y.natAbs := by unfold overM; rw [if_neg (fun h => hx (of_decide_eq_true h.1))]
        rw [eQ, eM, if_neg hx, Int.mul_one]
        generalize ((x.natAbs / y.natAbs : Nat) : Int) * (y.natAbs : Int) = z at *
        omega
    · omega
    · unfold overM
      split
      · rename_i h
        omega
      · omega
  obtain ⟨p1, p2⟩ := hpos x rfl
  have ey : (y.natAbs : Int) = if y < 0 then -y else y := by split <;> omega
  rw [ey] at p1 p2
  unfold sg
  generalize overQ x.natAbs y.natAbs (decide (x < 0)) = Q at *
  generalize overM x.natAbs y.natAbs (decide (x < 0)) = M at *
  by_cases h3 : y < 0
  · rw [if_pos h3] at p1 p2
    rw [Int.ediv_neg] at p1
    rw [Int.emod_neg] at p2
    refine ⟨?_, p2⟩
    by_cases h4 : x < 0
    · rw [if_pos h4] at p1
      simp only [h3, h4, decide_true, bne_self_eq_false, Bool.false_eq_true, if_false]
      omega
    · rw [if_neg h4] at p1
      simp only [h3, h4, decide_true, decide_false, Bool.false_bne, if_true]
      omega
  · rw [if_neg h3] at p1 p2
    refine ⟨?_, p2⟩
    by_cases h4 : x < 0
    · rw [if_pos h4] at p1
      simp only [h3, h4, decide_true, decide_false, Bool.bne_false, if_true]
      omega
    · rw [if_neg h4] at p1
      simp only [h3, h4, decide_false, bne_self_eq_false, Bool.false_eq_true, if_false]
      omega
theorem div_size {x y : Int} (hx : fit x) : overQ x.natAbs y.natAbs (decide (x < 0)) < 13407807929942597099574024998205846127479365820592393377723561443721764030073546976801874298166903427690031858186486050853753882811946569946433649006084096 := by
  have h1 : x.natAbs / y.natAbs ≤ x.natAbs := Nat.div_le_self _ _
  have h2 : x.natAbs ≤ 6703903964971298549787012499102923063739682910296196688861780721860882015036773488400937149083451713845015929093243025426876941405973284973216824503042048 := by
    unfold fit P511 at hx; omega
  unfold overQ
  split <;> omega
/-- Div. -/
theorem f_DivG (x y : Int) (hx : fit x) (hy : fit y) : Gives Tryz.prog 23 [W x, W y] (if y = 0 then .tuple #[W 0, W 0, .int .i64 7] else if fit (x / y) then .tuple #[W (x / y), W (x % y), .int .i64 0] else .tuple #[W 0, W 0, .int .i64 6]) := by
  by_cases h0 : y = 0
  · rw [if_pos h0]
    have k1 : RowGives Tryz.prog (sigN (lst [un x, un y])) ⟨11, [inN 1], .s (i1 0)⟩ := by
      refine ⟨rfl, ?_⟩
      simp only [List.map_cons, List.map_nil, val_inN, valV_s, val_i1]
      have := f_Sign y hy
      rw [show cmpI y 0 = 0 by subst h0; rfl] at this
      exact this
    have := run_gives _ _ [] (one_row k1) no_test _ 200 div_zero_run
    simp only [List.map_cons, List.map_nil, val_inN, valV, val_i1, val_z8] at this
    exact this
  · rw [if_neg h0]
    obtain ⟨o1, o2⟩ := over_ok x y h0
    have hl := abs_lt hx
    have hl' := abs_lt hy
    have hs := div_size (y := y) hx
    have hr : cmpI y 0 = -1 ∨ cmpI y 0 = 1 := by
      unfold cmpI
      by_cases h : y < 0
      · rw [if_pos h]; exact .inl rfl
      · rw [if_neg h, if_pos (by omega)]; exact .inr rfl
    have hm : un (x % y) = overM x.natAbs y.natAbs (decide (x < 0)) := by
      have b1 := Int.emod_nonneg x h0
      have b2 := Int.emod_lt x h0
      have b3 : x % y < P512 := by unfold fit P511 at hy; unfold P512; omega
      unfold un
      rw [Int.emod_eq_of_lt b1 b3, ← o2]
      exact Int.toNat_natCast _
    have k1 : ∀ l, RowGives Tryz.prog (sigN (lst (un x :: un y :: l))) ⟨11, [inN 1], .s (i1 (cmpI y 0))⟩ := fun l => by
      refine ⟨rfl, ?_⟩
      simp only [List.map_cons, List.map_nil, val_inN, valV_s, val_i1]
      exact f_Sign y hy
    have k2 : ∀ l, RowGives Tryz.prog (sigN (lst (un x :: un y :: x.natAbs :: l))) ⟨33, [inN 0], .s (sgN 2 (decide (x < 0)))⟩ := fun l => by
      refine ⟨rfl, ?_⟩
      simp only [List.map_cons, List.map_nil, val_inN, valV_s, val_sgN]
      exact f_signedOf x hx
    have k3 : ∀ l, RowGives Tryz.prog (sigN (lst (un x :: un y :: x.natAbs :: y.natAbs :: l))) ⟨33, [inN 1], .s (sgN 3 (decide (y < 0)))⟩ := fun l => by
      refine ⟨rfl, ?_⟩
      simp only [List.map_cons, List.map_nil, val_inN, valV_s, val_sgN]
      exact f_signedOf y hy
    have k4 : ∀ l, RowGives Tryz.prog (sigN (lst (un x :: un y :: x.natAbs :: y.natAbs :: overQ x.natAbs y.natAbs (decide (x < 0)) :: un (x % y) :: l))) ⟨48, [sgN 2 (decide (x < 0)), sgN 3 (decide (y < 0))], .tup [sgN 4 (decide (x < 0) != decide (y < 0)), inN 5]⟩ := fun l => by
      refine ⟨rfl, ?_⟩
      simp only [List.map_cons, List.map_nil, val_inN, valV_tup2, val_sgN]
      rw [show lst (un x :: un y :: x.natAbs :: y.natAbs :: overQ x.natAbs y.natAbs (decide (x < 0)) :: un (x % y) :: l) 5 = un (x % y) from rfl, hm]
      exact f_overG _ _ _ _ hl ⟨Int.natAbs_pos.2 h0, hl'⟩
    by_cases hf : fit (x / y)
    · rw [if_pos hf]
      have k5 : RowGives Tryz.prog (sigN (lst [un x, un y, x.natAbs, y.natAbs, overQ x.natAbs y.natAbs (decide (x < 0)), un (x % y), un (x / y)])) ⟨32, [sgN 4 (decide (x < 0) != decide (y < 0)), b1 true], .tup [inN 6, i1 0]⟩ := by
        refine ⟨rfl, ?_⟩
        simp only [List.map_cons, List.map_nil, val_sgN, val_b1, valV_tup2, val_inN, val_i1]
        have := f_wideOf _ (decide (x < 0) != decide (y < 0)) true hs
        rw [o1, if_pos ⟨rfl, hf⟩] at this
        exact this
      have := run_gives _ _ [] (more_row (k1 _) (more_row (k2 _) (more_row (k3 _) (more_row (k4 _) (one_row k5))))) no_test _ 200 (fun σ => div_ok_run σ _ _ _ hr)
      simp only [List.map_cons, List.map_nil, val_inN, valV, val_i1] at this
      exact this
    · rw [if_neg hf]
      have k5 : RowGives Tryz.prog (sigN (lst [un x, un y, x.natAbs, y.natAbs, overQ x.natAbs y.natAbs (decide (x < 0)), un (x % y)])) ⟨32, [sgN 4 (decide (x < 0) != decide (y < 0)), b1 true], .tup [z8, i1 6]⟩ := by
        refine ⟨rfl, ?_⟩
        simp only [List.map_cons, List.map_nil, val_sgN, val_b1, valV_tup2, val_z8, val_i1]
        have := f_wideOf _ (decide (x < 0) != decide (y < 0)) true hs
        rw [o1, if_neg (fun h => hf h.2)] at this
        exact this
      have := run_gives _ _ [] (more_row (k1 _) (more_row (k2 _) (more_row (k3 _) (more_row (k4 _) (one_row k5))))) no_test _ 200 (fun σ => div_big_run σ _ _ _ hr)
      simp only [List.map_cons, List.map_nil, val_inN, valV, val_i1, val_z8] at this
      exact this
end Go.Proofs.YtaafimabgcnbaabGreatDoor
