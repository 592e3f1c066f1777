/-
  Contracts of package wide's magnitudes, for every value: the length in bits, both shifts.
-/
import Derived.Test.YtaafimabgcnbaabGreatDoorMX
import Derived.Test.YtaafimabgcnbaabGreatDoorMRxKK
set_option linter.all false
namespace Go.Proofs.YtaafimabgcnbaabGreatDoor
open Go Go.Rx Go.RowKit Go.Big
theorem pw_two : ∀ k : Nat, pw (2 * k) = (((2 : Nat) ^ (64 * k) : Nat) : Int)
  | 0 => rfl
  | k + 1 => by
    rw [show 2 * (k + 1) = 2 * k + 1 + 1 by omega, pw_succ, pw_succ, pw_two k, show 64 * (k + 1) = 64 * k + 64 by omega, Nat.pow_add, show (2 : Nat) ^ 64 = 18446744073709551616 by decide]
    omega
theorem f_len64 (d : Nat) (h : d < 18446744073709551616) : Gives Tryz.prog 100 [.int .u64 d] (.int .i64 (Lib.bitLen d)) := by
  refine gives_of (enters_of Tryz.func100 (by kernel_rfl) rfl) fun w => ?_
  refine (Any.bits_Len64 Tryz.lays129 (d : Int) w (by omega) (by omega)).mono fun e w' he => ?_
  obtain ⟨rfl, rfl⟩ := he
  exact ⟨_, rfl, by rw [Int.toNat_natCast], Below.refl _ _⟩
theorem f_lenU (d : Nat) (h : d < 18446744073709551616) : Gives Tryz.prog 75 [.int .u64 d] (.int .i64 (Lib.bitLen d)) := by
  refine gives_of (enters_of Tryz.func75 (by kernel_rfl) rfl) fun w => ?_
  refine (Any.bits_Len Tryz.lays125 (d : Int) w (by omega) (by omega)).mono fun e w' he => ?_
  obtain ⟨rfl, rfl⟩ := he
  exact ⟨_, rfl, by rw [Int.toNat_natCast], Below.refl _ _⟩
theorem bitLen_facts {d : Nat} (h0 : d ≠ 0) (h : d < 18446744073709551616) : 1 ≤ Lib.bitLen d ∧ Lib.bitLen d ≤ 64 ∧ 2 ^ (Lib.bitLen d - 1) ≤ d ∧ d < 2 ^ Lib.bitLen d := by
  have hm : d < 2 ^ 64 := by rw [show (2 : Nat) ^ 64 = 18446744073709551616 by decide]; exact h
  obtain ⟨l1, l2, l3⟩ := Lib.bitLenAux_bounds 64 d hm (by omega)
  exact ⟨l1, Lib.bitLen_le d 64 (Nat.le_refl _) hm, l2, l3⟩
/-- m has k bits. -/
def hasBits (m k : Nat) : Prop := 1 ≤ k ∧ 2 ^ (k - 1) ≤ m ∧ m < 2 ^ k
def len64Row (L : Nat) : List Row := [⟨72, [inN 0], .s (i1 L)⟩, ⟨100, [.one (.ex .u64 (.inp .u64 (8 * 0 + (L - 1))))], .s (.one (.ex .i64 (.inp .u64 (8 * 1 + 0))))⟩]
def bitsE (L : Nat) : V1 := .one (.ex .i64 (.bin .add .i64 (.lit (64 * ((L : Int) - 1))) (.inp .u64 (8 * 1 + 0))))
theorem bits_run (L : Nat) (h : L ≤ 8) (h1 : L ≠ 0) (σ : Nat → Int) : runs σ (len64Row L) [] ⟨77, [inN 0], .s (bitsE L)⟩ 100 = true := by
  rcases nine h with rfl | rfl | rfl | rfl | rfl | rfl | rfl | rfl | rfl
  · exact absurd rfl h1
  all_goals kernel_rfl
/-- (magnitude).bitLength. -/
theorem f_bits (m : Nat) (hm : m < 13407807929942597099574024998205846127479365820592393377723561443721764030073546976801874298166903427690031858186486050853753882811946569946433649006084096) (h0 : m ≠ 0) : ∃ k : Nat, k ≤ 512 ∧ hasBits m k ∧ Gives Tryz.prog 77 [magV m] (.int .i64 k) := by
  obtain ⟨L, hL, hl⟩ := has_len m 8 (by rw [p2_eight]; exact hm)
  have hL0 : L ≠ 0 := fun h => by
    subst h
    have := hl.1
    rw [Nat.mul_zero, Nat.pow_zero] at this
    omega
  have hd := hl.2 hL0
  have hdl := dig_lt m (L - 1)
  obtain ⟨b1, b2, b3, b4⟩ := bitLen_facts hd hdl
  have hs := low_step m (L - 1)
  rw [show L - 1 + 1 = L by omega, Nat.mod_eq_of_lt hl.1] at hs
  have hlow := Nat.mod_lt m (show 0 < 2 ^ (64 * (L - 1)) from Nat.pow_pos (by decide))
  have hR : Gives Tryz.prog 77 [magV m] (.int .i64 ((64 * (L - 1) + Lib.bitLen (dig m (L - 1)) : Nat) : Int)) := by
    have e0 := inp_sigN (lst [m, Lib.bitLen (dig m (L - 1))]) 0 (L - 1) (by omega)
    have e1 := inp_sigN (lst [m, Lib.bitLen (dig m (L - 1))]) 1 0 (by decide)
    rw [show lst [m, Lib.bitLen (dig m (L - 1))] 0 = m from rfl] at e0
    rw [show lst [m, Lib.bitLen (dig m (L - 1))] 1 = Lib.bitLen (dig m (L - 1)) from rfl, (dig_low (show Lib.bitLen (dig m (L - 1)) < 18446744073709551616 by omega)).1] at e1
    have r1 : RowGives Tryz.prog (sigN (lst [m, Lib.bitLen (dig m (L - 1))])) ⟨72, [inN 0], .s (i1 L)⟩ := by
      refine ⟨rfl, ?_⟩
      simp only [List.map_cons, List.map_nil, val_inN, valV_s, val_i1]
      exact f_length m L hL hl
    have r2 : RowGives Tryz.prog (sigN (lst [m, Lib.bitLen (dig m (L - 1))])) ⟨100, [.one (.ex .u64 (.inp .u64 (8 * 0 + (L - 1))))], .s (.one (.ex .i64 (.inp .u64 (8 * 1 + 0))))⟩ := by
      refine ⟨rfl, ?_⟩
      simp only [List.map_cons, List.map_nil, valV_s, val1, valC, e0, e1]
      exact f_len64 _ hdl
    have := run_gives _ _ [] (more_row r1 (one_row r2)) no_test _ 100 (bits_run L hL hL0)
    have hb : val1 (sigN (lst [m, Lib.bitLen (dig m (L - 1))])) (bitsE L) = .int .i64 (IntKind.i64.wrap (64 * ((L : Int) - 1) + (Exp.inp .u64 (8 * 1 + 0)).eval (sigN (lst [m, Lib.bitLen (dig m (L - 1))])))) := rfl
    rw [e1] at hb
    simp only [List.map_cons, List.map_nil, val_inN, valV_s] at this
    rw [hb] at this
    rw [show lst [m, Lib.bitLen (dig m (L - 1))] 0 = m from rfl, wrap_i64 _ (by omega)] at this
    rw [show ((64 * (L - 1) + Lib.bitLen (dig m (L - 1)) : Nat) : Int) = 64 * ((L : Int) - 1) + (Lib.bitLen (dig m (L - 1)) : Int) by omega]
    exact this
  generalize Lib.bitLen (dig m (L - 1)) = B at *
  refine ⟨_, by omega, ⟨by omega, ?_, ?_⟩, hR⟩
  · rw [show 64 * (L - 1) + B - 1 = 64 * (L - 1) + (B - 1) by omega, Nat.pow_add]
    have := Nat.mul_le_mul_left (2 ^ (64 * (L - 1))) b3
    omega
  · rw [Nat.pow_add]
    have := Nat.mul_le_mul_left (2 ^ (64 * (L - 1))) (show dig m (L - 1) + 1 ≤ 2 ^ B by omega)
    rw [Nat.mul_add, Nat.mul_one] at this
    omega
/-- (magnitude).left, where nothing goes beyond 2^512. -/
theorem f_left (m N : Nat) (hN : N ≤ 511) (h : m * 2 ^ N < 13407807929942597099574024998205846127479365820592393377723561443721764030073546976801874298166903427690031858186486050853753882811946569946433649006084096) : Gives Tryz.prog 76 [magV m, .int .i64 N] (magV (m * 2 ^ N)) := by
  obtain ⟨q, p, hW, hp, e⟩ : ∃ q p, q ≤ 8 ∧ p ≤ 63 ∧ N = 64 * q + p := ⟨N / 64, N % 64, by omega, by omega, by omega⟩
  have hm : m < 13407807929942597099574024998205846127479365820592393377723561443721764030073546976801874298166903427690031858186486050853753882811946569946433649006084096 := by
    have := Nat.mul_le_mul_left m (show 1 ≤ 2 ^ N from Nat.one_le_two_pow)
    omega
  refine gives_of (enters_of Tryz.func76 (by kernel_rfl) rfl) fun w => ?_
  refine (left_c hW hp e (digs_good m)).mono fun e' w' hr => ?_
  obtain ⟨r, rfl, ⟨rs, k, hk, hl, hg, hv, rfl⟩, hB⟩ := hr
  refine ⟨_, rfl, ?_, hB⟩
  refine (mag_words hl hg ?_).symm
  have hmk : m < 2 ^ (64 * k) := by
    rcases Nat.lt_or_ge m (2 ^ (64 * k)) with h' | h'
    · exact h'
    · exfalso
      have h1 := Nat.mul_le_mul h' (show 2 ^ (64 * q) ≤ 2 ^ N from Nat.pow_le_pow_right (by decide) (by omega))
      rw [← Nat.pow_add, show 64 * k + 64 * q = 64 * 8 by omega, p2_eight] at h1
      omega
  have hv' : wval rs + upper (digs m) p k * pw 16 = wval ((digs m).take k) * (2 : Int) ^ p * pw (2 * q) := hv
  rw [digs_take (by omega) hmk, digs_val hm, pw_two q] at hv'
  have hP : ((m * 2 ^ N : Nat) : Int) = (m : Int) * (2 : Int) ^ p * (((2 : Nat) ^ (64 * q) : Nat) : Int) := by
    rw [e, Nat.pow_add, Nat.mul_comm (2 ^ (64 * q)), ← Nat.mul_assoc, Int.natCast_mul, Int.natCast_mul, Int.natCast_pow 2 p]
    rfl
  rw [← hP] at hv'
  have hlt := wval_lt hg
  rw [hl, show 2 * 8 = 16 by decide] at hlt
  have hu := (upper_lt (ms := digs m) (digs_good m) hp k).1
  rw [pw16] at hv' hlt
  generalize upper (digs m) p k = u at *
  generalize m * 2 ^ N = x at *
  omega
/-- (magnitude).right. -/
theorem f_right (m N : Nat) (hN : N ≤ 511) (hm : m < 13407807929942597099574024998205846127479365820592393377723561443721764030073546976801874298166903427690031858186486050853753882811946569946433649006084096) : Gives Tryz.prog 78 [magV m, .int .i64 N] (magV (m / 2 ^ N)) := by
  obtain ⟨q, p, hW, hp, e⟩ : ∃ q p, q ≤ 8 ∧ p ≤ 63 ∧ N = 64 * q + p := ⟨N / 64, N % 64, by omega, by omega, by omega⟩
  refine gives_of (enters_of Tryz.func78 (by kernel_rfl) rfl) fun w => ?_
  refine (right_c hW hp e (digs_good m)).mono fun e' w' hr => ?_
  obtain ⟨r, rfl, ⟨rs, hl, hg, hv, rfl⟩, hB⟩ := hr
  refine ⟨_, rfl, ?_, hB⟩
  refine (mag_words hl hg ?_).symm
  have hv' : wval rs = wval ((digs m).drop q) / (2 : Int) ^ p := hv
  have h1 := wval_split (digs m) q
  have h2 := wval_take_lt (digs_good m) q
  rw [digs_val hm] at h1
  have hpos := pw_pos (2 * q)
  have h3 : (m : Int) / pw (2 * q) = wval ((digs m).drop q) := by
    rw [h1, Int.add_mul_ediv_left _ _ (by omega), Int.ediv_eq_zero_of_lt h2.1 h2.2, Int.zero_add]
  rw [hv', ← h3, pw_two, e, Nat.pow_add, ← Nat.div_div_eq_div_mul, Int.natCast_ediv, Int.natCast_ediv, Int.natCast_pow 2 p]
  rfl
end Go.Proofs.YtaafimabgcnbaabGreatDoor
