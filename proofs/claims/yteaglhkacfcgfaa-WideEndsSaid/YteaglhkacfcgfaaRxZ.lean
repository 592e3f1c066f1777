/-
  Contracts of package wide, for every value: division by two.
-/
import Derived.Test.YteaglhkacfcgfaaRxY
namespace Go.Proofs.Yteaglhkacfcgfaa
open Go Go.Rx Go.RowKit

/-! ### How expressions come out -/
section
variable (σ : Nat → Int) (a b : Exp) (n : Int)
theorem ev_add : (Exp.bin .add .u64 a b).eval σ = (a.eval σ + b.eval σ) % 18446744073709551616 := by
  simp only [Exp.eval, arith, isShift, cond_false, intBin, numOf, wrap_u64]
theorem ev_sub : (Exp.bin .sub .u64 a b).eval σ = (a.eval σ - b.eval σ) % 18446744073709551616 := by
  simp only [Exp.eval, arith, isShift, cond_false, intBin, numOf, wrap_u64]
theorem ev_mul : (Exp.bin .mul .u64 a b).eval σ = (a.eval σ * b.eval σ) % 18446744073709551616 := by
  simp only [Exp.eval, arith, isShift, cond_false, intBin, numOf, wrap_u64]
theorem ev_quo (h : 0 < n) (ha : 0 ≤ a.eval σ) : (Exp.bin .quo .u64 a (.lit n)).eval σ = (a.eval σ / n) % 18446744073709551616 := by
  show numOf (arith .quo .u64 (a.eval σ) n) = _
  simp only [arith, isShift, cond_false, intBin]
  rw [if_neg (by omega)]
  simp only [numOf, wrap_u64]
  rw [Int.tdiv_eq_ediv_of_nonneg ha]
theorem ev_rem (h : 0 < n) (ha : 0 ≤ a.eval σ) : (Exp.bin .rem .u64 a (.lit n)).eval σ = a.eval σ % n := by
  show numOf (arith .rem .u64 (a.eval σ) n) = _
  simp only [arith, isShift, cond_false, intBin]
  rw [if_neg (by omega)]
  simp only [numOf]
  rw [Int.tmod_eq_emod_of_nonneg ha]
theorem ev_shr (k : Nat) (hk : k ≤ 64) : (Exp.bin .shr .u64 a (.lit k)).eval σ = a.eval σ / (2 ^ k : Nat) := by
  show numOf (arith .shr .u64 (a.eval σ) k) = _
  simp only [arith, isShift, cond_true, shiftX]
  rw [if_neg (by omega)]
  simp only [numOf, IntKind.bits, Int.toNat_natCast]
  rw [Nat.min_eq_left hk, Int.fdiv_eq_ediv_of_nonneg _ (by exact_mod_cast Nat.zero_le _)]
  push_cast
  rfl
theorem ev_shl (k : Nat) (hk : k ≤ 64) : (Exp.bin .shl .u64 a (.lit k)).eval σ = (a.eval σ * (2 ^ k : Nat)) % 18446744073709551616 := by
  show numOf (arith .shl .u64 (a.eval σ) k) = _
  simp only [arith, isShift, cond_true, shiftX]
  rw [if_neg (by omega)]
  simp only [numOf, IntKind.bits, Int.toNat_natCast, wrap_u64]
  rw [Nat.min_eq_left hk]
  push_cast
  rfl
theorem ev_or (x y : Nat) (hx : x < 2 ^ 64) (hy : y < 2 ^ 64) (ha : a.eval σ = x) (hb : b.eval σ = y) : (Exp.bin .or .u64 a b).eval σ = (x ||| y : Nat) := by
  show IntKind.u64.wrap ((BitVec.ofInt 64 (a.eval σ) ||| BitVec.ofInt 64 (b.eval σ)).toNat : Int) = _
  rw [ha, hb, wrap_u64, BitVec.ofInt_natCast, BitVec.ofInt_natCast, BitVec.toNat_or, BitVec.toNat_ofNat, BitVec.toNat_ofNat]
  rw [Nat.mod_eq_of_lt hx, Nat.mod_eq_of_lt hy]
  have := Nat.or_lt_two_pow hx hy
  omega
theorem ev_and (x y : Nat) (hx : x < 2 ^ 64) (hy : y < 2 ^ 64) (ha : a.eval σ = x) (hb : b.eval σ = y) : (Exp.bin .and .u64 a b).eval σ = (x &&& y : Nat) := by
  show IntKind.u64.wrap ((BitVec.ofInt 64 (a.eval σ) &&& BitVec.ofInt 64 (b.eval σ)).toNat : Int) = _
  rw [ha, hb, wrap_u64, BitVec.ofInt_natCast, BitVec.ofInt_natCast, BitVec.toNat_and, BitVec.toNat_ofNat, BitVec.toNat_ofNat]
  rw [Nat.mod_eq_of_lt hx, Nat.mod_eq_of_lt hy]
  have := Nat.and_lt_two_pow x hy
  omega
theorem ev_lit : (Exp.lit n).eval σ = n := rfl
end

/-! ### Div64 by two -/
def u1 (n : Int) : V1 := .one (.v (.int .u64 n))
def x1 (e : Exp) : V1 := .one (.ex .u64 e)
theorem val_u1 (σ : Nat → Int) (n : Int) : val1 σ (u1 n) = .int .u64 n := rfl
theorem val_x1 (σ : Nat → Int) (e : Exp) : val1 σ (x1 e) = .int .u64 (e.eval σ) := rfl
def wE : Exp := .inp .u64 0
def un32E : Exp := .bin .or .u64 (.lit 4611686018427387904) (.bin .shr .u64 wE (.lit 2))
def un10E : Exp := .bin .shl .u64 wE (.lit 62)
def un1E : Exp := .bin .shr .u64 un10E (.lit 32)
def un0E : Exp := .bin .and .u64 un10E (.lit 4294967295)
def q1E : Exp := .bin .quo .u64 un32E (.lit 2147483648)
def rhE : Exp := .bin .sub .u64 un32E (.bin .mul .u64 q1E (.lit 2147483648))
def un21E : Exp := .bin .sub .u64 (.bin .add .u64 (.bin .mul .u64 un32E (.lit 4294967296)) un1E) (.bin .mul .u64 q1E (.lit 9223372036854775808))
def q0E : Exp := .bin .quo .u64 un21E (.lit 2147483648)
def rh'E : Exp := .bin .sub .u64 un21E (.bin .mul .u64 q0E (.lit 2147483648))
def quoE : Exp := .bin .add .u64 (.bin .mul .u64 q1E (.lit 4294967296)) q0E
def remE : Exp := .bin .shr .u64 (.bin .sub .u64 (.bin .add .u64 (.bin .mul .u64 un21E (.lit 4294967296)) un0E) (.bin .mul .u64 q0E (.lit 9223372036854775808))) (.lit 62)
def divTests : List Test := [⟨.geq, q1E, .lit 4294967296, false⟩, ⟨.gtr, .bin .mul .u64 q1E (.lit 0), .bin .add .u64 (.bin .mul .u64 (.lit 4294967296) rhE) un1E, false⟩, ⟨.geq, q0E, .lit 4294967296, false⟩, ⟨.gtr, .bin .mul .u64 q0E (.lit 0), .bin .add .u64 (.bin .mul .u64 (.lit 4294967296) rh'E) un0E, false⟩]
theorem div_run0 (σ : Nat → Int) : runs σ [] [] ⟨106, [u1 0, x1 wE, u1 2], .tup [x1 (.bin .quo .u64 wE (.lit 2)), x1 (.bin .rem .u64 wE (.lit 2))]⟩ 300 = true := by kernel_rfl
theorem div_run1 (σ : Nat → Int) : runs σ [] divTests ⟨106, [u1 1, x1 wE, u1 2], .tup [x1 quoE, x1 remE]⟩ 300 = true := by kernel_rfl
theorem or_lem (x : Nat) (h : x < 2 ^ 62) : 4611686018427387904 ||| x = 4611686018427387904 + x := by
  have := Nat.two_pow_add_eq_or_of_lt h 1
  simp only [Nat.mul_one] at this
  exact this.symm
theorem and_lem (x : Nat) : x &&& 4294967295 = x % 4294967296 := Nat.and_two_pow_sub_one_eq_mod x 32
theorem ar_e10 (n : Nat) (hn : n < 18446744073709551616) : (n:Int) * ((4611686018427387904:Nat):Int) % 18446744073709551616 = ((n % 4 * 4611686018427387904 : Nat) : Int) := by omega
theorem ar_e1 (n : Nat) (hn : n < 18446744073709551616) : ((n % 4 * 4611686018427387904 : Nat) : Int) / ((4294967296:Nat):Int) = ((n % 4 * 1073741824 : Nat) : Int) := by omega
theorem ar_eq1 (n : Nat) (hn : n < 18446744073709551616) : ((4611686018427387904 + n / 4 : Nat) : Int) / 2147483648 % 18446744073709551616 = ((2147483648 + n / 8589934592 : Nat) : Int) := by omega
theorem ar_erh (n : Nat) (hn : n < 18446744073709551616) : (((4611686018427387904 + n / 4 : Nat) : Int) - ((2147483648 + n / 8589934592 : Nat) : Int) * 2147483648 % 18446744073709551616) % 18446744073709551616 = ((n / 4 % 2147483648 : Nat) : Int) := by omega
theorem ar_e21 (n : Nat) (hn : n < 18446744073709551616) : ((((4611686018427387904 + n / 4 : Nat) : Int) * 4294967296 % 18446744073709551616 + ((n % 4 * 1073741824 : Nat) : Int)) % 18446744073709551616 - ((2147483648 + n / 8589934592 : Nat) : Int) * 9223372036854775808 % 18446744073709551616) % 18446744073709551616 = ((n / 4 % 2147483648 * 4294967296 + n % 4 * 1073741824 : Nat) : Int) := by omega
theorem ar_eq0 (n : Nat) (hn : n < 18446744073709551616) : ((n / 4 % 2147483648 * 4294967296 + n % 4 * 1073741824 : Nat) : Int) / 2147483648 % 18446744073709551616 = ((n / 4 % 2147483648 * 2 + n % 4 / 2 : Nat) : Int) := by omega
theorem ar_erh2 (n : Nat) (hn : n < 18446744073709551616) : (((n / 4 % 2147483648 * 4294967296 + n % 4 * 1073741824 : Nat) : Int) - ((n / 4 % 2147483648 * 2 + n % 4 / 2 : Nat) : Int) * 2147483648 % 18446744073709551616) % 18446744073709551616 = ((n % 2 * 1073741824 : Nat) : Int) := by omega
theorem ar_equo (n : Nat) (hn : n < 18446744073709551616) : (((2147483648 + n / 8589934592 : Nat) : Int) * 4294967296 % 18446744073709551616 + ((n / 4 % 2147483648 * 2 + n % 4 / 2 : Nat) : Int)) % 18446744073709551616 = (1 * 18446744073709551616 + (n : Int)) / 2 := by omega
theorem ar_erem (n : Nat) (hn : n < 18446744073709551616) : (((((n / 4 % 2147483648 * 4294967296 + n % 4 * 1073741824 : Nat) : Int) * 4294967296 % 18446744073709551616 + 0) % 18446744073709551616 - ((n / 4 % 2147483648 * 2 + n % 4 / 2 : Nat) : Int) * 9223372036854775808 % 18446744073709551616) % 18446744073709551616) / ((4611686018427387904:Nat):Int) = (n : Int) % 2 := by omega
theorem ar_s (n : Nat) : (n : Int) / ((2 ^ 2 : Nat) : Int) = ((n / 4 : Nat) : Int) := by omega
theorem ar_t1 (n : Nat) (hn : n < 18446744073709551616) : decide (((2147483648 + n / 8589934592 : Nat) : Int) ≥ 4294967296) = false := by rw [decide_eq_false_iff_not]; omega
theorem ar_t2 (n : Nat) (hn : n < 18446744073709551616) (a b : Nat) (ha : a < 2147483648) (hb : b < 4294967296) : decide (((2147483648 + n / 8589934592 : Nat) : Int) * 0 % 18446744073709551616 > (4294967296 * (a : Int) % 18446744073709551616 + (b : Int)) % 18446744073709551616) = false := by rw [decide_eq_false_iff_not]; omega
theorem ar_u (n : Nat) : n % 4 * 1073741824 < 4294967296 := by omega
theorem ar_t3 (n : Nat) (hn : n < 18446744073709551616) : decide (((n / 4 % 2147483648 * 2 + n % 4 / 2 : Nat) : Int) ≥ 4294967296) = false := by rw [decide_eq_false_iff_not]; omega
theorem ar_t4 (n : Nat) (hn : n < 18446744073709551616) : decide (((n / 4 % 2147483648 * 2 + n % 4 / 2 : Nat) : Int) * 0 % 18446744073709551616 > (4294967296 * ((n % 2 * 1073741824 : Nat) : Int) % 18446744073709551616 + 0) % 18446744073709551616) = false := by rw [decide_eq_false_iff_not]; omega
theorem nn (n : Nat) {x : Int} (h : x = (n : Int)) : 0 ≤ x := by rw [h]; exact Int.natCast_nonneg n
/-- Div64 by two. -/
theorem f_Div64 (r w : Int) (hr : 0 ≤ r ∧ r ≤ 1) (hw : 0 ≤ w ∧ w < 18446744073709551616) : Gives Try.prog 106 [.int .u64 r, .int .u64 w, .int .u64 2] (.tuple #[.int .u64 ((r * 18446744073709551616 + w) / 2), .int .u64 (w % 2)]) := by
  obtain ⟨n, rfl⟩ := Int.eq_ofNat_of_zero_le hw.1
  have hn : n < 18446744073709551616 := by omega
  have ew : wE.eval (fun _ => (n : Int)) = (n : Int) := by
    show IntKind.u64.wrap (n : Int) = n
    rw [wrap_u64]; omega
  have hc : r = 0 ∨ r = 1 := by omega
  clear hr hw
  rcases hc with rfl | rfl
  · have := run_gives (fun _ => (n : Int)) [] [] no_row no_test _ 300 div_run0
    simp only [List.map_cons, List.map_nil, valV_tup2, val_u1, val_x1, ew] at this
    rw [ev_quo _ _ _ (by decide) (nn n ew), ev_rem _ _ _ (by decide) (nn n ew), ew] at this
    clear ew
    rw [show (n : Int) / 2 % 18446744073709551616 = (n : Int) / 2 by clear this; omega] at this
    rw [show (0 * 18446744073709551616 + (n : Int)) / 2 = (n : Int) / 2 by clear this; omega]
    exact this
  · have e32 : un32E.eval (fun _ => (n : Int)) = ((4611686018427387904 + n / 4 : Nat) : Int) := by
      have hs : (Exp.bin .shr .u64 wE (.lit 2)).eval (fun _ => (n : Int)) = ((n / 4 : Nat) : Int) := by
        have := ev_shr (fun _ => (n : Int)) wE 2 (by decide)
        rw [ew, ar_s] at this
        exact this
      have h4 : n / 4 < 2 ^ 62 := by clear hs ew; omega
      rw [un32E, ev_or _ _ _ 4611686018427387904 (n / 4) (by decide) (Nat.lt_trans h4 (by decide)) rfl hs, or_lem _ h4]
    have e10 : un10E.eval (fun _ => (n : Int)) = ((n % 4 * 4611686018427387904 : Nat) : Int) := by
      have := ev_shl (fun _ => (n : Int)) wE 62 (by decide)
      rw [ew, show (2 ^ 62 : Nat) = 4611686018427387904 by decide, ar_e10 n hn] at this
      exact this
    have e1 : un1E.eval (fun _ => (n : Int)) = ((n % 4 * 1073741824 : Nat) : Int) := by
      have := ev_shr (fun _ => (n : Int)) un10E 32 (by decide)
      rw [e10, show (2 ^ 32 : Nat) = 4294967296 by decide, ar_e1 n hn] at this
      exact this
    have h3 : n % 4 * 4611686018427387904 < 2 ^ 64 := by clear e32 e10 e1 ew; omega
    have e0 : un0E.eval (fun _ => (n : Int)) = 0 := by
      rw [un0E, ev_and _ _ _ (n % 4 * 4611686018427387904) 4294967295 h3 (by decide) e10 rfl, and_lem]
      clear e32 e10 e1 ew; omega
    have eq1 : q1E.eval (fun _ => (n : Int)) = ((2147483648 + n / 8589934592 : Nat) : Int) := by
      rw [q1E, ev_quo _ _ _ (by decide) (nn _ e32), e32]; exact ar_eq1 n hn
    have erh : rhE.eval (fun _ => (n : Int)) = ((n / 4 % 2147483648 : Nat) : Int) := by
      rw [rhE, ev_sub, ev_mul, e32, eq1, ev_lit]; exact ar_erh n hn
    have e21 : un21E.eval (fun _ => (n : Int)) = ((n / 4 % 2147483648 * 4294967296 + n % 4 * 1073741824 : Nat) : Int) := by
      rw [un21E, ev_sub, ev_add, ev_mul, ev_mul, e32, eq1, e1, ev_lit, ev_lit]; exact ar_e21 n hn
    have eq0 : q0E.eval (fun _ => (n : Int)) = ((n / 4 % 2147483648 * 2 + n % 4 / 2 : Nat) : Int) := by
      rw [q0E, ev_quo _ _ _ (by decide) (nn _ e21), e21]; exact ar_eq0 n hn
    have erh' : rh'E.eval (fun _ => (n : Int)) = ((n % 2 * 1073741824 : Nat) : Int) := by
      rw [rh'E, ev_sub, ev_mul, e21, eq0, ev_lit]; exact ar_erh2 n hn
    have equo : quoE.eval (fun _ => (n : Int)) = (1 * 18446744073709551616 + (n : Int)) / 2 := by
      rw [quoE, ev_add, ev_mul, eq1, eq0, ev_lit]; exact ar_equo n hn
    have erem : remE.eval (fun _ => (n : Int)) = (n : Int) % 2 := by
      rw [remE, show (Exp.lit 62) = Exp.lit ((62 : Nat) : Int) from rfl, ev_shr _ _ 62 (by decide), ev_sub, ev_add, ev_mul, ev_mul, e21, e0, eq0, ev_lit, ev_lit, show (2 ^ 62 : Nat) = 4611686018427387904 by decide]; exact ar_erem n hn
    have ht : ∀ t ∈ divTests, TestOk (fun _ => (n : Int)) t := by
      intro t ht k
      simp only [divTests, List.mem_cons, List.not_mem_nil, or_false] at ht
      rcases ht with rfl | rfl | rfl | rfl
      · simp only [intBin, eq1, ev_lit, ar_t1 n hn]
      · simp only [intBin, ev_mul, ev_add, eq1, erh, e1, ev_lit]
        rw [ar_t2 n hn _ _ (Nat.mod_lt _ (by decide)) (ar_u n)]
      · simp only [intBin, eq0, ev_lit, ar_t3 n hn]
      · simp only [intBin, ev_mul, ev_add, eq0, erh', e0, ev_lit]
        rw [ar_t4 n hn]
    have := run_gives (fun _ => (n : Int)) [] divTests no_row ht _ 300 div_run1
    simp only [List.map_cons, List.map_nil, valV_tup2, val_u1, val_x1, ew, equo, erem] at this
    exact this
end Go.Proofs.Yteaglhkacfcgfaa
