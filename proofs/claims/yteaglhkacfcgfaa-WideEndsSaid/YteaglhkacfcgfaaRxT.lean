/-
  Contracts of package wide, for every value: sums and differences of magnitudes.
-/
import Derived.Test.YteaglhkacfcgfaaRxS
namespace Go.Proofs.Yteaglhkacfcgfaa
open Go Go.Rx Go.RowKit

theorem split_of (a b c n : Nat) (e : 2 ^ c = n) (h : c = a + b) : n = 2 ^ a * 2 ^ b := by subst h; rw [← e, Nat.pow_add]
theorem p2_eight : 2 ^ (64 * 8) = 13407807929942597099574024998205846127479365820592393377723561443721764030073546976801874298166903427690031858186486050853753882811946569946433649006084096 := by kernel_rfl
theorem p2_split (i : Nat) (h : i ≤ 8) : 13407807929942597099574024998205846127479365820592393377723561443721764030073546976801874298166903427690031858186486050853753882811946569946433649006084096 = 2 ^ (64 * i) * 2 ^ (64 * 8 - 64 * i) := split_of _ _ (64 * 8) _ p2_eight (by omega)
/-- Word number i of n. -/
def dig (n i : Nat) : Nat := n / 2 ^ (64 * i) % 2 ^ 64
def magV (n : Nat) : Value := .agg #[.int .u64 (dig n 0), .int .u64 (dig n 1), .int .u64 (dig n 2), .int .u64 (dig n 3), .int .u64 (dig n 4), .int .u64 (dig n 5), .int .u64 (dig n 6), .int .u64 (dig n 7)]
def w8 (f : Nat → Exp) : V1 := .agg [.ex .u64 (f 0), .ex .u64 (f 1), .ex .u64 (f 2), .ex .u64 (f 3), .ex .u64 (f 4), .ex .u64 (f 5), .ex .u64 (f 6), .ex .u64 (f 7)]
def inW (k : Nat) : V1 := w8 fun i => .inp .u64 (k + i)
def sig2 (m n : Nat) (i : Nat) : Int := if i < 8 then (dig m i : Int) else (dig n (i - 8) : Int)
theorem dig_lt (n i : Nat) : dig n i < 18446744073709551616 := Nat.mod_lt _ (by decide)
theorem inp_sig2 (m n i : Nat) (h : i < 8) : (Exp.inp .u64 i).eval (sig2 m n) = dig m i := by
  have := dig_lt m i
  simp only [Exp.eval, wrap_u64, sig2, h, if_true]; omega
theorem inp_sig2' (m n i : Nat) : (Exp.inp .u64 (8 + i)).eval (sig2 m n) = dig n i := by
  have := dig_lt n i
  simp only [Exp.eval, wrap_u64, sig2, show ¬ (8 + i < 8) by omega, if_false, show 8 + i - 8 = i by omega]; omega
theorem val_w8 (σ : Nat → Int) (f : Nat → Exp) (n : Nat) (h : ∀ i, i < 8 → (f i).eval σ = dig n i) : val1 σ (w8 f) = magV n := by
  simp only [w8, val1, valC, magV, List.map_cons, List.map_nil, h 0 (by decide), h 1 (by decide), h 2 (by decide), h 3 (by decide), h 4 (by decide), h 5 (by decide), h 6 (by decide), h 7 (by decide)]
theorem val_in0 (m n : Nat) : val1 (sig2 m n) (inW 0) = magV m := val_w8 _ _ _ fun i hi => by
  have := inp_sig2 m n i hi
  rwa [show 0 + i = i by omega]
theorem val_in8 (m n : Nat) : val1 (sig2 m n) (inW 8) = magV n := val_w8 _ _ _ fun i _ => inp_sig2' m n i

/-! ### Adding word by word -/
def carryE : Nat → Exp
  | 0 => .lit 0
  | i + 1 => .addC (.inp .u64 i) (.inp .u64 (8 + i)) (carryE i)
def sumE (i : Nat) : Exp := .addS (.inp .u64 i) (.inp .u64 (8 + i)) (carryE i)
theorem pow_step (i : Nat) : 2 ^ (64 * (i + 1)) = 2 ^ (64 * i) * 2 ^ 64 := by rw [← Nat.pow_add]; congr 1
theorem low_step (m i : Nat) : m % 2 ^ (64 * (i + 1)) = 2 ^ (64 * i) * dig m i + m % 2 ^ (64 * i) := by
  rw [pow_step, Nat.mod_mul, dig]; omega
theorem add_step (m n i : Nat) : (m % 2 ^ (64 * (i + 1)) + n % 2 ^ (64 * (i + 1))) / 2 ^ (64 * (i + 1)) = (dig m i + dig n i + (m % 2 ^ (64 * i) + n % 2 ^ (64 * i)) / 2 ^ (64 * i)) / 2 ^ 64 := by
  have hB : 0 < 2 ^ (64 * i) := Nat.pow_pos (by decide)
  rw [low_step, low_step, pow_step]
  generalize 2 ^ (64 * i) = B at *
  rw [← Nat.div_div_eq_div_mul]
  congr 1
  rw [show B * dig m i + m % B + (B * dig n i + n % B) = (m % B + n % B) + B * (dig m i + dig n i) by rw [Nat.mul_add]; omega]
  rw [Nat.add_mul_div_left _ _ hB]
  omega
theorem carry_eval (m n : Nat) : ∀ i, i ≤ 8 → (carryE i).eval (sig2 m n) = ((m % 2 ^ (64 * i) + n % 2 ^ (64 * i)) / 2 ^ (64 * i) : Nat)
  | 0, _ => by simp [carryE, Exp.eval, Nat.mod_one]
  | i + 1, h => by
    simp only [carryE, Exp.eval]
    have h1 := inp_sig2 m n i (by omega)
    have h2 := inp_sig2' m n i
    simp only [Exp.eval] at h1 h2
    rw [h1, h2, carry_eval m n i (by omega), add_step]
    simp only [Int.natCast_ediv, Int.natCast_add]
    rfl
theorem sum_digit (m n i : Nat) : (dig m i + dig n i + (m % 2 ^ (64 * i) + n % 2 ^ (64 * i)) / 2 ^ (64 * i)) % 2 ^ 64 = dig (m + n) i := by
  have hB : 0 < 2 ^ (64 * i) := Nat.pow_pos (by decide)
  unfold dig
  generalize 2 ^ (64 * i) = B at *
  have e : (m + n) / B = m / B + n / B + (m % B + n % B) / B := by
    have h1 : m + n = (m % B + n % B) + B * (m / B + n / B) := by
      have := Nat.div_add_mod m B; have := Nat.div_add_mod n B
      rw [Nat.mul_add]; omega
    conv => lhs; rw [h1]
    rw [Nat.add_mul_div_left _ _ hB]
    omega
  rw [e]
  omega
theorem sum_eval (m n i : Nat) (h : i < 8) : (sumE i).eval (sig2 m n) = dig (m + n) i := by
  simp only [sumE, Exp.eval]
  have h1 := inp_sig2 m n i h
  have h2 := inp_sig2' m n i
  simp only [Exp.eval] at h1 h2
  rw [h1, h2, carry_eval m n i (by omega), ← sum_digit]
  simp only [Int.natCast_emod, Int.natCast_add]
  rfl
theorem dig_mod (n i : Nat) (h : i < 8) : dig (n % 13407807929942597099574024998205846127479365820592393377723561443721764030073546976801874298166903427690031858186486050853753882811946569946433649006084096) i = dig n i := by
  unfold dig
  rw [p2_split i (by omega), Nat.mod_mul_right_div_self, Nat.mod_mod_of_dvd]
  exact Nat.pow_dvd_pow 2 (by omega)
theorem magV_mod (n : Nat) : magV (n % 13407807929942597099574024998205846127479365820592393377723561443721764030073546976801874298166903427690031858186486050853753882811946569946433649006084096) = magV n := by
  simp only [magV, dig_mod n _ (show 0 < 8 by decide), dig_mod n _ (show 1 < 8 by decide), dig_mod n _ (show 2 < 8 by decide), dig_mod n _ (show 3 < 8 by decide), dig_mod n _ (show 4 < 8 by decide), dig_mod n _ (show 5 < 8 by decide), dig_mod n _ (show 6 < 8 by decide), dig_mod n _ (show 7 < 8 by decide)]

theorem pow512 : 0 < 13407807929942597099574024998205846127479365820592393377723561443721764030073546976801874298166903427690031858186486050853753882811946569946433649006084096 := by decide
theorem div_is_zero (x B : Nat) (hB : 0 < B) : (((x / B : Nat) : Int) == 0) = decide (x < B) := by
  rw [Bool.eq_iff_iff]
  simp only [beq_iff_eq, decide_eq_true_eq]
  constructor
  · intro h
    have h' : x / B = 0 := by exact_mod_cast h
    rcases (Nat.div_eq_zero_iff).1 h' with h'' | h''
    · omega
    · exact h''
  · intro h
    have h' : x / B = 0 := Nat.div_eq_of_lt h
    exact_mod_cast h'
def b1 (b : Bool) : V1 := .one (.v (.bool b))
/-- (magnitude).sum. -/
theorem f_sum (m n : Nat) (hm : m < 13407807929942597099574024998205846127479365820592393377723561443721764030073546976801874298166903427690031858186486050853753882811946569946433649006084096) (hn : n < 13407807929942597099574024998205846127479365820592393377723561443721764030073546976801874298166903427690031858186486050853753882811946569946433649006084096) : Gives Try.prog 86 [magV m, magV n] (.tuple #[magV (m + n), .bool (decide (m + n < 13407807929942597099574024998205846127479365820592393377723561443721764030073546976801874298166903427690031858186486050853753882811946569946433649006084096))]) := by
  have hc : (carryE 8).eval (sig2 m n) = ((m + n) / 13407807929942597099574024998205846127479365820592393377723561443721764030073546976801874298166903427690031858186486050853753882811946569946433649006084096 : Nat) := by
    rw [carry_eval m n 8 (by decide), p2_eight]
    rw [Nat.mod_eq_of_lt hm, Nat.mod_eq_of_lt hn]
  have key : ∀ b, TestOk (sig2 m n) ⟨.eql, carryE 8, .lit 0, b⟩ → Gives Try.prog 86 [magV m, magV n] (.tuple #[magV (m + n), .bool b]) := fun b ht => by
    have := run_gives (sig2 m n) [] [⟨.eql, carryE 8, .lit 0, b⟩] (fun r h => (by cases h)) (fun t h => by simp only [List.mem_cons, List.not_mem_nil, or_false] at h; subst h; exact ht)
      ⟨86, [inW 0, inW 8], .tup [w8 sumE, b1 b]⟩ 100 (fun σ => by cases b <;> kernel_rfl)
    simp only [List.map_cons, List.map_nil, val_in0, val_in8, valV] at this
    rw [val_w8 (sig2 m n) sumE (m + n) (fun i hi => sum_eval m n i hi)] at this
    exact this
  refine key _ fun k => ?_
  simp only [intBin, hc, Exp.eval]
  rw [div_is_zero _ _ pow512]
end Go.Proofs.Yteaglhkacfcgfaa
