/-
  Contracts of package wide, for every value: products by two.
  Contracts of package wide, for every value: Mul by two.
-/
import Derived.Test.YtfeapgpjchjphaaGreatMG
set_option linter.all false
namespace Go.Proofs.YtfeapgpjchjphaaGreat
open Go Go.Rx Go.RowKit

def sigP (m : Nat) (i : Nat) : Int := if i < 8 then (dig m i : Int) else if i < 16 then ((dig m (i - 8) / 9223372036854775808 : Nat) : Int) else ((dig m (i - 16) * 2 % 18446744073709551616 : Nat) : Int)
theorem sigP0 (m i : Nat) (h : i < 8) : (Exp.inp .u64 (0 + i)).eval (sigP m) = dig m i := by
  have := dig_lt m i
  rw [Nat.zero_add]
  simp only [Exp.eval, wrap_u64, sigP, h, if_true]; omega
theorem sigP1 (m i : Nat) (h : i < 8) : (Exp.inp .u64 (8 + i)).eval (sigP m) = ((dig m i / 9223372036854775808 : Nat) : Int) := by
  have := dig_lt m i
  simp only [Exp.eval, wrap_u64, sigP, show ¬ (8 + i < 8) by omega, show 8 + i < 16 by omega, if_true, if_false, show 8 + i - 8 = i by omega]; omega
theorem sigP2 (m i : Nat) : (Exp.inp .u64 (16 + i)).eval (sigP m) = ((dig m i * 2 % 18446744073709551616 : Nat) : Int) := by
  have := dig_lt m i
  simp only [Exp.eval, wrap_u64, sigP, show ¬ (16 + i < 8) by omega, show ¬ (16 + i < 16) by omega, if_false, show 16 + i - 16 = i by omega]; omega
def pcar (i : Nat) (c : Exp) : Exp := .bin .add .u64 (.inp .u64 (8 + i)) (.addC c (.inp .u64 (16 + i)) (.lit 0))
def pC : Nat → Exp
  | 0 => .lit 0
  | i + 1 => .addS (.lit 0) (pcar i (pC i)) (.lit 0)
/-- The bit that comes from below. -/
def low1 (m : Nat) : Nat → Nat
  | 0 => 0
  | i + 1 => dig m i / 9223372036854775808
theorem low1_le (m i : Nat) : low1 m i ≤ 1 := by
  cases i with
  | zero => exact Nat.zero_le _
  | succ i => have := dig_lt m i; show dig m i / 9223372036854775808 ≤ 1; omega
theorem ap_1 (d c : Nat) (_ : d < 18446744073709551616) (_ : c ≤ 1) : (((d / 9223372036854775808 : Nat) : Int) + ((c : Int) + ((d * 2 % 18446744073709551616 : Nat) : Int) + 0) / 18446744073709551616) % 18446744073709551616 = ((d / 9223372036854775808 : Nat) : Int) := by omega
theorem ap_2 (d : Nat) (_ : d < 18446744073709551616) : (0 + ((d / 9223372036854775808 : Nat) : Int) + 0) % 18446744073709551616 = ((d / 9223372036854775808 : Nat) : Int) := by omega
theorem ap_3 (d : Nat) (_ : d < 18446744073709551616) : (0 + ((d / 9223372036854775808 : Nat) : Int) + 0) / 18446744073709551616 = 0 := by omega
theorem ev_addS (σ : Nat → Int) (a b c : Exp) : (Exp.addS a b c).eval σ = (a.eval σ + b.eval σ + c.eval σ) % 18446744073709551616 := rfl
theorem ev_addC (σ : Nat → Int) (a b c : Exp) : (Exp.addC a b c).eval σ = (a.eval σ + b.eval σ + c.eval σ) / 18446744073709551616 := rfl
theorem pcar_eval (m i : Nat) (h : i < 8) (c : Exp) (hc : c.eval (sigP m) = low1 m i) : (pcar i c).eval (sigP m) = ((dig m i / 9223372036854775808 : Nat) : Int) := by
  rw [pcar, ev_add, ev_addC, hc, sigP1 m i h, sigP2, ev_lit]
  exact ap_1 _ _ (dig_lt m i) (low1_le m i)
theorem pC_eval (m i : Nat) : i ≤ 8 → (pC i).eval (sigP m) = low1 m i := by
  induction i with
  | zero => intro _; rfl
  | succ i ih =>
    intro h
    rw [pC, ev_addS, pcar_eval m i (by omega) _ (ih (by omega)), ev_lit]
    exact ap_2 _ (dig_lt m i)
theorem twice_div (m i : Nat) : m * 2 / 2 ^ (64 * (i + 1)) = m / 2 ^ (64 * i) / 9223372036854775808 := by
  rw [Nat.div_div_eq_div_mul, show 2 ^ (64 * (i + 1)) = 2 ^ (64 * i) * 9223372036854775808 * 2 by rw [pow_step, Nat.mul_assoc], Nat.mul_div_mul_right _ _ (by decide)]
theorem twice_dig (m i : Nat) : dig (m * 2) i = (dig m i * 2 + low1 m i) % 18446744073709551616 := by
  cases i with
  | zero =>
    show m * 2 / 2 ^ (64 * 0) % 2 ^ 64 = (m / 2 ^ (64 * 0) % 2 ^ 64 * 2 + 0) % 18446744073709551616
    rw [Nat.mul_zero, Nat.pow_zero, Nat.div_one, Nat.div_one]
    omega
  | succ i =>
    have h := div_step m i
    have hq : dig m (i + 1) = m / 2 ^ (64 * (i + 1)) % 2 ^ 64 := rfl
    have hx : dig (m * 2) (i + 1) = m * 2 / 2 ^ (64 * (i + 1)) % 2 ^ 64 := rfl
    have hl : low1 m (i + 1) = dig m i / 9223372036854775808 := rfl
    have hd := dig_lt m i
    rw [hx, twice_div, h, hq, hl]
    generalize dig m i = d at *
    generalize m / 2 ^ (64 * (i + 1)) = q
    omega
def pTests (L : Nat) (b : Bool) : List Test := ((List.range L).map fun i => (⟨.eql, .addC (.lit 0) (pcar i (pC i)) (.lit 0), .lit 0, true⟩ : Test)) ++ (if L = 8 then [⟨.neq, pC 8, .lit 0, !b⟩] else [])
def pRow (i : Nat) : Row := ⟨122, [x1 (.inp .u64 (0 + i)), u1 2], .tup [x1 (.inp .u64 (8 + i)), x1 (.inp .u64 (16 + i))]⟩
def pRows (L : Nat) : List Row := ⟨106, [inW 0], .s (i1 L)⟩ :: (List.range L).map pRow
def pCell (L i : Nat) : C := if i < L then .ex .u64 (.addS (pC i) (.inp .u64 (16 + i)) (.lit 0)) else if i = L ∧ L ≠ 0 then .ex .u64 (pC i) else .v (.int .u64 0)
def p8 (L : Nat) : V1 := .agg [pCell L 0, pCell L 1, pCell L 2, pCell L 3, pCell L 4, pCell L 5, pCell L 6, pCell L 7]
theorem prod_run (L : Nat) (h : L ≤ 8) (b : Bool) (hb : L = 8 ∨ b = true) (σ : Nat → Int) : runs σ (pRows L) (pTests L b) ⟨105, [inW 0, mag 2], .tup [p8 L, b1 b]⟩ 400 = true := by
  rcases nine h with rfl | rfl | rfl | rfl | rfl | rfl | rfl | rfl | rfl <;> cases b <;> simp at hb <;> kernel_rfl
theorem low1_high {m L i : Nat} (h : m < 2 ^ (64 * L)) (hi : L < i) : low1 m i = 0 := by
  cases i with
  | zero => rfl
  | succ i => show dig m i / 9223372036854775808 = 0; rw [dig_high h (by omega)]
theorem val_p (m L i : Nat) (hi : i < 8) (h : m < 2 ^ (64 * L)) : valC (sigP m) (pCell L i) = .int .u64 (dig (m * 2) i) := by
  have hd := twice_dig m i
  have hl := low1_le m i
  unfold pCell
  split
  · show Value.int .u64 ((Exp.addS (pC i) (.inp .u64 (16 + i)) (.lit 0)).eval (sigP m)) = _
    rw [ev_addS, pC_eval m i (by omega), sigP2, ev_lit, hd]
    generalize dig m i = d
    generalize low1 m i = c
    congr 1
    omega
  · split
    · show Value.int .u64 ((pC i).eval (sigP m)) = _
      rw [pC_eval m i (by omega), hd, dig_high h (by omega)]
      generalize low1 m i = c at *
      congr 1
      omega
    · rename_i h1 h2
      have : low1 m i = 0 := by
        by_cases hL : L = 0
        · subst hL
          cases i with
          | zero => rfl
          | succ i => show dig m i / 9223372036854775808 = 0; rw [dig_high h (by omega)]
        · exact low1_high h (by omega)
      rw [hd, this, dig_high h (by omega)]
      rfl
theorem div_lt_of (m a n B : Nat) (e : a * B = n) (h : m < n) : m / B < a := Nat.div_lt_of_lt_mul (by rw [Nat.mul_comm, e]; exact h)
theorem p2_seven : 2 ^ 64 * 2 ^ (64 * 7) = 13407807929942597099574024998205846127479365820592393377723561443721764030073546976801874298166903427690031858186486050853753882811946569946433649006084096 := by kernel_rfl
theorem p2_next : 2 ^ (64 * (7 + 1)) = 13407807929942597099574024998205846127479365820592393377723561443721764030073546976801874298166903427690031858186486050853753882811946569946433649006084096 := by kernel_rfl
theorem fits_top (m : Nat) (hm : m < 13407807929942597099574024998205846127479365820592393377723561443721764030073546976801874298166903427690031858186486050853753882811946569946433649006084096) : m * 2 < 13407807929942597099574024998205846127479365820592393377723561443721764030073546976801874298166903427690031858186486050853753882811946569946433649006084096 ↔ low1 m 8 = 0 := by
  have h1 := twice_div m 7
  have h2 : dig m 7 = m / 2 ^ (64 * 7) := by
    unfold dig
    rw [Nat.mod_eq_of_lt]
    have h5 := div_lt_of m (2 ^ 64) _ (2 ^ (64 * 7)) p2_seven hm
    exact h5
  have h3 : low1 m 8 = m * 2 / 13407807929942597099574024998205846127479365820592393377723561443721764030073546976801874298166903427690031858186486050853753882811946569946433649006084096 := by
    show dig m 7 / 9223372036854775808 = _
    rw [h2, ← h1, p2_next]
  rw [h3]
  constructor
  · intro h; exact Nat.div_eq_of_lt h
  · intro h
    rcases (Nat.div_eq_zero_iff).1 h with h | h
    · exact absurd h (Nat.ne_of_gt pow512)
    · exact h
/-- (magnitude).product by two. -/
theorem f_prod (m : Nat) (hm : m < 13407807929942597099574024998205846127479365820592393377723561443721764030073546976801874298166903427690031858186486050853753882811946569946433649006084096) : Gives Tryz.prog 105 [magV m, magV 2] (.tuple #[magV (m * 2), .bool (decide (m * 2 < 13407807929942597099574024998205846127479365820592393377723561443721764030073546976801874298166903427690031858186486050853753882811946569946433649006084096))]) := by
  obtain ⟨L, hL, hl⟩ := has_len m 8 (by rw [p2_eight]; exact hm)
  have hfit := fits_top m hm
  have v0 : val1 (sigP m) (inW 0) = magV m := val_w8 _ _ _ fun i hi => sigP0 m i hi
  have hr : ∀ r ∈ pRows L, RowGives Tryz.prog (sigP m) r := by
    intro r hr
    simp only [pRows, List.mem_cons, List.mem_map, List.mem_range] at hr
    rcases hr with rfl | ⟨i, hi, rfl⟩
    · refine ⟨rfl, ?_⟩
      simp only [List.map_cons, List.map_nil, v0, valV_s, val_i1]
      exact f_length m L hL hl
    · refine ⟨rfl, ?_⟩
      simp only [pRow, List.map_cons, List.map_nil, valV_tup2, val_u1, val_x1, sigP0 m i (by omega), sigP1 m i (by omega), sigP2]
      exact f_Mul64 _ (dig_lt m i)
  have ht : ∀ t ∈ pTests L (decide (m * 2 < 13407807929942597099574024998205846127479365820592393377723561443721764030073546976801874298166903427690031858186486050853753882811946569946433649006084096)), TestOk (sigP m) t := by
    intro t ht k
    simp only [pTests, List.mem_append, List.mem_map, List.mem_range] at ht
    rcases ht with ⟨i, hi, rfl⟩ | ht
    · simp only [intBin]
      rw [ev_addC, pcar_eval m i (by omega) _ (pC_eval m i (by omega)), ev_lit, ap_3 _ (dig_lt m i)]
      rfl
    · split at ht
      · simp only [List.mem_cons, List.not_mem_nil, or_false] at ht
        subst ht
        simp only [intBin]
        rw [pC_eval m 8 (by decide), ev_lit]
        have hd : decide (m * 2 < 13407807929942597099574024998205846127479365820592393377723561443721764030073546976801874298166903427690031858186486050853753882811946569946433649006084096) = decide (low1 m 8 = 0) := by
          rw [Bool.eq_iff_iff, decide_eq_true_eq, decide_eq_true_eq]; exact hfit
        rw [hd]
        generalize low1 m 8 = c
        by_cases hc : c = 0
        · subst hc; rfl
        · rw [decide_eq_false hc]
          congr 2
          rw [Bool.not_false, bne_iff_ne]
          omega
      · cases ht
  have hb : L = 8 ∨ decide (m * 2 < 13407807929942597099574024998205846127479365820592393377723561443721764030073546976801874298166903427690031858186486050853753882811946569946433649006084096) = true := by
    by_cases h8 : L = 8
    · exact .inl h8
    · right
      rw [decide_eq_true_eq, hfit]
      exact low1_high hl.1 (by omega)
  have := run_gives (sigP m) _ _ hr ht _ 400 (prod_run L hL _ hb)
  simp only [List.map_cons, List.map_nil, v0, valV_tup2, val_mag, val_b1] at this
  have e8 : val1 (sigP m) (p8 L) = magV (m * 2) := by
    simp only [p8, val1, magV, List.map_cons, List.map_nil, val_p m L _ (show 0 < 8 by decide) hl.1, val_p m L _ (show 1 < 8 by decide) hl.1, val_p m L _ (show 2 < 8 by decide) hl.1, val_p m L _ (show 3 < 8 by decide) hl.1, val_p m L _ (show 4 < 8 by decide) hl.1, val_p m L _ (show 5 < 8 by decide) hl.1, val_p m L _ (show 6 < 8 by decide) hl.1, val_p m L _ (show 7 < 8 by decide) hl.1]
  rw [e8] at this
  exact this
end Go.Proofs.YtfeapgpjchjphaaGreat
namespace Go.Proofs.YtfeapgpjchjphaaGreat
open Go Go.Rx Go.RowKit

theorem times_run (σ : Nat → Int) (b f : Bool) : runs σ [⟨105, [inN 0, mag 2], .tup [inN 1, b1 f]⟩] [] ⟨92, [sgN 0 b, sg2], .tup [sgN 1 b, b1 f]⟩ 200 = true := by
  cases b <;> cases f <;> kernel_rfl
/-- (signed).times two. -/
theorem f_times (m : Nat) (b : Bool) (hm : m < 13407807929942597099574024998205846127479365820592393377723561443721764030073546976801874298166903427690031858186486050853753882811946569946433649006084096) : Gives Tryz.prog 92 [sgV m b, sgV 2 false] (Sgd.V ⟨m * 2 % 13407807929942597099574024998205846127479365820592393377723561443721764030073546976801874298166903427690031858186486050853753882811946569946433649006084096, b, decide (m * 2 < 13407807929942597099574024998205846127479365820592393377723561443721764030073546976801874298166903427690031858186486050853753882811946569946433649006084096)⟩) := by
  have r1 : RowGives Tryz.prog (sigN (lst [m, m * 2])) ⟨105, [inN 0, mag 2], .tup [inN 1, b1 (decide (m * 2 < 13407807929942597099574024998205846127479365820592393377723561443721764030073546976801874298166903427690031858186486050853753882811946569946433649006084096))]⟩ := by
    refine ⟨rfl, ?_⟩
    simp only [List.map_cons, List.map_nil, val_inN, valV_tup2, val_mag, val_b1]
    exact f_prod m hm
  have := run_gives _ _ [] (one_row r1) no_test _ 200 (fun σ => times_run σ b _)
  simp only [List.map_cons, List.map_nil, valV_tup2, val_sgN, val_sg2, val_b1] at this
  unfold Sgd.V
  simp only
  rw [sgV_mod]
  exact this
theorem fit_two : fit 2 := by unfold fit P511; omega
theorem twice_ok (x : Int) : (x.natAbs * 2 < 13407807929942597099574024998205846127479365820592393377723561443721764030073546976801874298166903427690031858186486050853753882811946569946433649006084096 → sg (x.natAbs * 2) (decide (x < 0)) = x * 2) ∧ (¬ x.natAbs * 2 < 13407807929942597099574024998205846127479365820592393377723561443721764030073546976801874298166903427690031858186486050853753882811946569946433649006084096 → ¬ fit (x * 2)) := by
  have hp := p512_nat
  refine ⟨fun h => ?_, fun h => ?_⟩
  · unfold sg
    by_cases h0 : x < 0
    · rw [decide_eq_true h0, if_pos rfl]; omega
    · rw [decide_eq_false h0, if_neg (by decide)]; omega
  · unfold fit P511 P512 at *; omega
end Go.Proofs.YtfeapgpjchjphaaGreat
