/-
  Contracts of package wide, for every value: sums and differences of integers.
  Contracts of package wide, for every value: division by two.
  Contracts of package wide, for every value: the length in words; halves of magnitudes.
  Contracts of package wide, for every value: Div by two.
  Contracts of package wide, for every value: Mul64 by two.
-/
import Derived.Test.YtfeapgpjchjphaaGreatMB
set_option linter.all false
namespace Go.Proofs.YtfeapgpjchjphaaGreat
open Go Go.Rx Go.RowKit

def lst (l : List Nat) (i : Nat) : Nat := l.getD i 0
theorem valV_tup2 (σ : Nat → Int) (a b : V1) : valV σ (.tup [a, b]) = .tuple #[val1 σ a, val1 σ b] := rfl
theorem valV_s (σ : Nat → Int) (a : V1) : valV σ (.s a) = val1 σ a := rfl

theorem plus_same (σ : Nat → Int) (b f : Bool) : runs σ [⟨103, [inN 0, inN 1], .tup [inN 2, b1 f]⟩] [] ⟨90, [sgN 0 b, sgN 1 b], .tup [sgN 2 b, b1 f]⟩ 100 = true := by
  cases b <;> cases f <;> kernel_rfl
theorem plus_less (σ : Nat → Int) (b : Bool) : runs σ [⟨72, [inN 0, inN 1], .s (i1 (-1))⟩, ⟨104, [inN 1, inN 0], .s (inN 2)⟩] [] ⟨90, [sgN 0 (!b), sgN 1 b], .tup [sgN 2 b, b1 true]⟩ 100 = true := by
  cases b <;> kernel_rfl
theorem plus_more (σ : Nat → Int) (b : Bool) (r : Int) (h : r = 0 ∨ r = 1) : runs σ [⟨72, [inN 0, inN 1], .s (i1 r)⟩, ⟨104, [inN 0, inN 1], .s (inN 2)⟩] [] ⟨90, [sgN 0 b, sgN 1 (!b)], .tup [sgN 2 b, b1 true]⟩ 100 = true := by
  rcases h with rfl | rfl <;> cases b <;> kernel_rfl
theorem f_sub (m n : Nat) (hn : n < 13407807929942597099574024998205846127479365820592393377723561443721764030073546976801874298166903427690031858186486050853753882811946569946433649006084096) (h : n ≤ m) : Gives Tryz.prog 104 [magV m, magV n] (magV (m - n)) := by
  have := f_diff m n hn
  rwa [show m + 13407807929942597099574024998205846127479365820592393377723561443721764030073546976801874298166903427690031858186486050853753882811946569946433649006084096 - n = (m - n) + 13407807929942597099574024998205846127479365820592393377723561443721764030073546976801874298166903427690031858186486050853753882811946569946433649006084096 by omega, magV_congr (Nat.add_mod_right (m - n) (13407807929942597099574024998205846127479365820592393377723561443721764030073546976801874298166903427690031858186486050853753882811946569946433649006084096))] at this
/-- What plus hands back. -/
structure Sgd where
  n : Nat
  b : Bool
  f : Bool
def Sgd.V (s : Sgd) : Value := .tuple #[sgV s.n s.b, .bool s.f]
def plusR (m : Nat) (b : Bool) (n : Nat) (c : Bool) : Sgd :=
  if b = c then ⟨(m + n) % 13407807929942597099574024998205846127479365820592393377723561443721764030073546976801874298166903427690031858186486050853753882811946569946433649006084096, b, decide (m + n < 13407807929942597099574024998205846127479365820592393377723561443721764030073546976801874298166903427690031858186486050853753882811946569946433649006084096)⟩ else if m < n then ⟨n - m, c, true⟩ else ⟨m - n, b, true⟩
theorem sgV_mod (n : Nat) (b : Bool) : sgV (n % 13407807929942597099574024998205846127479365820592393377723561443721764030073546976801874298166903427690031858186486050853753882811946569946433649006084096) b = sgV n b := by
  simp only [sgV, dig_mod n _ (show 0 < 8 by decide), dig_mod n _ (show 1 < 8 by decide), dig_mod n _ (show 2 < 8 by decide), dig_mod n _ (show 3 < 8 by decide), dig_mod n _ (show 4 < 8 by decide), dig_mod n _ (show 5 < 8 by decide), dig_mod n _ (show 6 < 8 by decide), dig_mod n _ (show 7 < 8 by decide)]
/-- (signed).plus. -/
theorem f_plus (m n : Nat) (b c : Bool) (hm : m < 13407807929942597099574024998205846127479365820592393377723561443721764030073546976801874298166903427690031858186486050853753882811946569946433649006084096) (hn : n < 13407807929942597099574024998205846127479365820592393377723561443721764030073546976801874298166903427690031858186486050853753882811946569946433649006084096) : Gives Tryz.prog 90 [sgV m b, sgV n c] (plusR m b n c).V := by
  by_cases hbc : b = c
  · subst hbc
    have r1 : RowGives Tryz.prog (sigN (lst [m, n, m + n])) ⟨103, [inN 0, inN 1], .tup [inN 2, b1 (decide (m + n < 13407807929942597099574024998205846127479365820592393377723561443721764030073546976801874298166903427690031858186486050853753882811946569946433649006084096))]⟩ := by
      refine ⟨rfl, ?_⟩
      simp only [List.map_cons, List.map_nil, val_inN, valV_tup2, val_b1]
      exact f_sum m n hm hn
    have := run_gives _ _ [] (one_row r1) no_test ⟨90, [sgN 0 b, sgN 1 b], _⟩ 100 (fun σ => plus_same σ b _)
    simp only [List.map_cons, List.map_nil, val_sgN, valV_tup2, val_b1] at this
    unfold plusR Sgd.V
    rw [if_pos rfl]
    simp only
    rw [sgV_mod]
    exact this
  · have hc : c = !b := by cases b <;> cases c <;> simp_all
    have r1 : ∀ k r, cmpI m n = r → RowGives Tryz.prog (sigN (lst [m, n, k])) ⟨72, [inN 0, inN 1], .s (i1 r)⟩ := fun k r h => by
      refine ⟨rfl, ?_⟩
      simp only [List.map_cons, List.map_nil, val_inN]
      rw [← h]
      exact f_compare m n hm hn
    unfold plusR
    rw [if_neg hbc]
    by_cases hlt : m < n
    · rw [if_pos hlt]
      have hr : cmpI m n = -1 := by unfold cmpI; rw [if_pos (by omega)]
      have r2 : RowGives Tryz.prog (sigN (lst [m, n, n - m])) ⟨104, [inN 1, inN 0], .s (inN 2)⟩ := by
        refine ⟨rfl, ?_⟩
        simp only [List.map_cons, List.map_nil, val_inN, valV_s]
        exact f_sub n m hm (by omega)
      have := run_gives _ _ [] (more_row (r1 _ _ hr) (one_row r2)) no_test ⟨90, [sgN 0 (!c), sgN 1 c], _⟩ 100 (fun σ => plus_less σ c)
      simp only [List.map_cons, List.map_nil, val_sgN, valV_tup2, val_b1] at this
      rw [show (!c) = b by rw [hc, Bool.not_not]] at this
      exact this
    · rw [if_neg hlt]
      have hr : cmpI m n = 0 ∨ cmpI m n = 1 := by
        unfold cmpI; rw [if_neg (by omega)]
        split
        · right; rfl
        · left; rfl
      have r2 : RowGives Tryz.prog (sigN (lst [m, n, m - n])) ⟨104, [inN 0, inN 1], .s (inN 2)⟩ := by
        refine ⟨rfl, ?_⟩
        simp only [List.map_cons, List.map_nil, val_inN, valV_s]
        exact f_sub m n hn (by omega)
      have := run_gives _ _ [] (more_row (r1 _ _ rfl) (one_row r2)) no_test ⟨90, [sgN 0 b, sgN 1 (!b)], _⟩ 100 (fun σ => plus_more σ b _ hr)
      simp only [List.map_cons, List.map_nil, val_sgN, valV_tup2, val_b1] at this
      rw [← hc] at this
      exact this
theorem minus_run (σ : Nat → Int) (b c d f : Bool) : runs σ [⟨90, [sgN 0 b, sgN 1 (!c)], .tup [sgN 2 d, b1 f]⟩] [] ⟨91, [sgN 0 b, sgN 1 c], .tup [sgN 2 d, b1 f]⟩ 100 = true := by
  cases b <;> cases c <;> cases d <;> cases f <;> kernel_rfl
/-- (signed).minus. -/
theorem f_minus (m n : Nat) (b c : Bool) (hm : m < 13407807929942597099574024998205846127479365820592393377723561443721764030073546976801874298166903427690031858186486050853753882811946569946433649006084096) (hn : n < 13407807929942597099574024998205846127479365820592393377723561443721764030073546976801874298166903427690031858186486050853753882811946569946433649006084096) : Gives Tryz.prog 91 [sgV m b, sgV n c] (plusR m b n (!c)).V := by
  have r1 : RowGives Tryz.prog (sigN (lst [m, n, (plusR m b n (!c)).n])) ⟨90, [sgN 0 b, sgN 1 (!c)], .tup [sgN 2 (plusR m b n (!c)).b, b1 (plusR m b n (!c)).f]⟩ := by
    refine ⟨rfl, ?_⟩
    simp only [List.map_cons, List.map_nil, val_sgN, valV_tup2, val_b1]
    exact f_plus m n b (!c) hm hn
  have := run_gives _ _ [] (one_row r1) no_test ⟨91, [sgN 0 b, sgN 1 c], _⟩ 100 (fun σ => minus_run σ b c _ _)
  simp only [List.map_cons, List.map_nil, val_sgN, valV_tup2, val_b1] at this
  exact this

/-! ### combine -/
def o1 (o : Int) : V1 := .one (.v (.int .i32 o))
def resV (x : Int) (good : Prop) [Decidable good] : Value := if good then outV x else bigV
theorem resV_eq (x : Int) (good : Prop) [Decidable good] : ∃ r e, (e = 0 ∨ e = 6) ∧ resV x good = .tuple #[W r, .int .i64 e] := by
  unfold resV
  split
  · exact ⟨x, 0, .inl rfl, rfl⟩
  · exact ⟨0, 6, .inr rfl, rfl⟩
theorem abs_lt {x : Int} (h : fit x) : x.natAbs < 13407807929942597099574024998205846127479365820592393377723561443721764030073546976801874298166903427690031858186486050853753882811946569946433649006084096 := by
  have := p512_nat
  unfold fit P511 P512 at *; omega
theorem sg_abs (x : Int) : sg x.natAbs (decide (x < 0)) = x := by
  unfold sg
  by_cases h : x < 0
  · simp only [h, decide_true, if_true]; omega
  · simp only [h, decide_false, Bool.false_eq_true, if_false]; omega
theorem plusR_ok {m n : Nat} {b c : Bool} (hm : m < 13407807929942597099574024998205846127479365820592393377723561443721764030073546976801874298166903427690031858186486050853753882811946569946433649006084096) (hn : n < 13407807929942597099574024998205846127479365820592393377723561443721764030073546976801874298166903427690031858186486050853753882811946569946433649006084096) : (plusR m b n c).n < 13407807929942597099574024998205846127479365820592393377723561443721764030073546976801874298166903427690031858186486050853753882811946569946433649006084096 ∧ ((plusR m b n c).f = true → sg (plusR m b n c).n (plusR m b n c).b = sg m b + sg n c) ∧ ((plusR m b n c).f = false → ¬ fit (sg m b + sg n c)) := by
  have hp := p512_nat
  unfold plusR
  split
  · rename_i h; subst h
    refine ⟨Nat.mod_lt _ pow512, fun h => ?_, fun h => ?_⟩
    · simp only [decide_eq_true_eq] at h
      simp only [Nat.mod_eq_of_lt h]
      cases b <;> simp [sg] <;> omega
    · simp only [decide_eq_false_iff_not] at h
      cases b <;> simp [sg, fit] <;> unfold P511 P512 at * <;> omega
  · rename_i hbc
    split
    · refine ⟨by simp only; omega, fun _ => ?_, fun h => by cases h⟩
      cases b <;> cases c <;> simp [sg] at hbc ⊢ <;> omega
    · refine ⟨by simp only; omega, fun _ => ?_, fun h => by cases h⟩
      cases b <;> cases c <;> simp [sg] at hbc ⊢ <;> omega
theorem resV_sum {s : Sgd} {z : Int} (h1 : s.f = true → sg s.n s.b = z) (h2 : s.f = false → ¬ fit z) : resV (sg s.n s.b) (s.f = true ∧ fit (sg s.n s.b)) = resV z (fit z) := by
  unfold resV
  cases hf : s.f with
  | true => rw [h1 hf]; simp
  | false => rw [if_neg (by simp), if_neg (h2 hf)]
end Go.Proofs.YtfeapgpjchjphaaGreat
namespace Go.Proofs.YtfeapgpjchjphaaGreat
open Go Go.Rx Go.RowKit

/-! ### How expressions come out -/
section
variable (σ : Nat → Int) (a b : Exp) (n : Int)
theorem ev_add : (Exp.bin .add .u64 a b).eval σ = (a.eval σ + b.eval σ) % 18446744073709551616 := by
  simp only [Exp.eval, arith, isShift, cond_false, intBin, numOf, wrap_u64]
theorem ev_sub : (Exp.bin .sub .u64 a b).eval σ = (a.eval σ - b.eval σ) % 18446744073709551616 := by
  simp only [Exp.eval, arith, isShift, cond_false, intBin, numOf, wrap_u64]
theorem ev_mul : (Exp.bin .mul .u64 a b).eval σ = (a.eval σ * b.eval σ) % 18446744073709551616 := by
  simp only [Exp.eval, arith, isShift, cond_false, intBin, numOf, wrap_u64]
theorem ev_quo (h : 0 < n) (ha : 0 ≤ a.eval σ) : (Exp.bin .quo .u64 a (.lit n)).eval σ = (a.eval σ / n) % 18446744073709551616 := by
  show numOf (arith .quo .u64 (a.eval σ) n) = _
  simp only [arith, isShift, cond_false, intBin]
  rw [if_neg (by omega)]
  simp only [numOf, wrap_u64]
  rw [Int.tdiv_eq_ediv_of_nonneg ha]
theorem ev_rem (h : 0 < n) (ha : 0 ≤ a.eval σ) : (Exp.bin .rem .u64 a (.lit n)).eval σ = a.eval σ % n := by
  show numOf (arith .rem .u64 (a.eval σ) n) = _
  simp only [arith, isShift, cond_false, intBin]
  rw [if_neg (by omega)]
  simp only [numOf]
  rw [Int.tmod_eq_emod_of_nonneg ha]
theorem ev_shr (k : Nat) (hk : k ≤ 64) : (Exp.bin .shr .u64 a (.lit k)).eval σ = a.eval σ / (2 ^ k : Nat) := by
  show numOf (arith .shr .u64 (a.eval σ) k) = _
  simp only [arith, isShift, cond_true, shiftX]
  rw [if_neg (by omega)]
  simp only [numOf, IntKind.bits, Int.toNat_natCast]
  rw [Nat.min_eq_left hk, Int.fdiv_eq_ediv_of_nonneg _ (by exact_mod_cast Nat.zero_le _)]
  push_cast
  rfl
theorem ev_shl (k : Nat) (hk : k ≤ 64) : (Exp.bin .shl .u64 a (.lit k)).eval σ = (a.eval σ * (2 ^ k : Nat)) % 18446744073709551616 := by
  show numOf (arith .shl .u64 (a.eval σ) k) = _
  simp only [arith, isShift, cond_true, shiftX]
  rw [if_neg (by omega)]
  simp only [numOf, IntKind.bits, Int.toNat_natCast, wrap_u64]
  rw [Nat.min_eq_left hk]
  push_cast
  rfl
theorem ev_or (x y : Nat) (hx : x < 2 ^ 64) (hy : y < 2 ^ 64) (ha : a.eval σ = x) (hb : b.eval σ = y) : (Exp.bin .or .u64 a b).eval σ = (x ||| y : Nat) := by
  show IntKind.u64.wrap ((BitVec.ofInt 64 (a.eval σ) ||| BitVec.ofInt 64 (b.eval σ)).toNat : Int) = _
  rw [ha, hb, wrap_u64, BitVec.ofInt_natCast, BitVec.ofInt_natCast, BitVec.toNat_or, BitVec.toNat_ofNat, BitVec.toNat_ofNat]
  rw [Nat.mod_eq_of_lt hx, Nat.mod_eq_of_lt hy]
  have := Nat.or_lt_two_pow hx hy
  omega
theorem ev_and (x y : Nat) (hx : x < 2 ^ 64) (hy : y < 2 ^ 64) (ha : a.eval σ = x) (hb : b.eval σ = y) : (Exp.bin .and .u64 a b).eval σ = (x &&& y : Nat) := by
  show IntKind.u64.wrap ((BitVec.ofInt 64 (a.eval σ) &&& BitVec.ofInt 64 (b.eval σ)).toNat : Int) = _
  rw [ha, hb, wrap_u64, BitVec.ofInt_natCast, BitVec.ofInt_natCast, BitVec.toNat_and, BitVec.toNat_ofNat, BitVec.toNat_ofNat]
  rw [Nat.mod_eq_of_lt hx, Nat.mod_eq_of_lt hy]
  have := Nat.and_lt_two_pow x hy
  omega
theorem ev_lit : (Exp.lit n).eval σ = n := rfl
end

/-! ### Div64 by two -/
def u1 (n : Int) : V1 := .one (.v (.int .u64 n))
def x1 (e : Exp) : V1 := .one (.ex .u64 e)
theorem val_u1 (σ : Nat → Int) (n : Int) : val1 σ (u1 n) = .int .u64 n := rfl
theorem val_x1 (σ : Nat → Int) (e : Exp) : val1 σ (x1 e) = .int .u64 (e.eval σ) := rfl
def wE : Exp := .inp .u64 0
def un32E : Exp := .bin .or .u64 (.lit 4611686018427387904) (.bin .shr .u64 wE (.lit 2))
def un10E : Exp := .bin .shl .u64 wE (.lit 62)
def un1E : Exp := .bin .shr .u64 un10E (.lit 32)
def un0E : Exp := .bin .and .u64 un10E (.lit 4294967295)
def q1E : Exp := .bin .quo .u64 un32E (.lit 2147483648)
def rhE : Exp := .bin .sub .u64 un32E (.bin .mul .u64 q1E (.lit 2147483648))
def un21E : Exp := .bin .sub .u64 (.bin .add .u64 (.bin .mul .u64 un32E (.lit 4294967296)) un1E) (.bin .mul .u64 q1E (.lit 9223372036854775808))
def q0E : Exp := .bin .quo .u64 un21E (.lit 2147483648)
def rh'E : Exp := .bin .sub .u64 un21E (.bin .mul .u64 q0E (.lit 2147483648))
def quoE : Exp := .bin .add .u64 (.bin .mul .u64 q1E (.lit 4294967296)) q0E
def remE : Exp := .bin .shr .u64 (.bin .sub .u64 (.bin .add .u64 (.bin .mul .u64 un21E (.lit 4294967296)) un0E) (.bin .mul .u64 q0E (.lit 9223372036854775808))) (.lit 62)
def divTests : List Test := [⟨.geq, q1E, .lit 4294967296, false⟩, ⟨.gtr, .bin .mul .u64 q1E (.lit 0), .bin .add .u64 (.bin .mul .u64 (.lit 4294967296) rhE) un1E, false⟩, ⟨.geq, q0E, .lit 4294967296, false⟩, ⟨.gtr, .bin .mul .u64 q0E (.lit 0), .bin .add .u64 (.bin .mul .u64 (.lit 4294967296) rh'E) un0E, false⟩]
theorem div_run0 (σ : Nat → Int) : runs σ [] [] ⟨128, [u1 0, x1 wE, u1 2], .tup [x1 (.bin .quo .u64 wE (.lit 2)), x1 (.bin .rem .u64 wE (.lit 2))]⟩ 300 = true := by kernel_rfl
theorem div_run1 (σ : Nat → Int) : runs σ [] divTests ⟨128, [u1 1, x1 wE, u1 2], .tup [x1 quoE, x1 remE]⟩ 300 = true := by kernel_rfl
theorem or_lem (x : Nat) (h : x < 2 ^ 62) : 4611686018427387904 ||| x = 4611686018427387904 + x := by
  have := Nat.two_pow_add_eq_or_of_lt h 1
  simp only [Nat.mul_one] at this
  exact this.symm
theorem and_lem (x : Nat) : x &&& 4294967295 = x % 4294967296 := Nat.and_two_pow_sub_one_eq_mod x 32
theorem ar_e10 (n : Nat) (hn : n < 18446744073709551616) : (n:Int) * ((4611686018427387904:Nat):Int) % 18446744073709551616 = ((n % 4 * 4611686018427387904 : Nat) : Int) := by omega
theorem ar_e1 (n : Nat) (hn : n < 18446744073709551616) : ((n % 4 * 4611686018427387904 : Nat) : Int) / ((4294967296:Nat):Int) = ((n % 4 * 1073741824 : Nat) : Int) := by omega
theorem ar_eq1 (n : Nat) (hn : n < 18446744073709551616) : ((4611686018427387904 + n / 4 : Nat) : Int) / 2147483648 % 18446744073709551616 = ((2147483648 + n / 8589934592 : Nat) : Int) := by omega
theorem ar_erh (n : Nat) (hn : n < 18446744073709551616) : (((4611686018427387904 + n / 4 : Nat) : Int) - ((2147483648 + n / 8589934592 : Nat) : Int) * 2147483648 % 18446744073709551616) % 18446744073709551616 = ((n / 4 % 2147483648 : Nat) : Int) := by omega
theorem ar_e21 (n : Nat) (hn : n < 18446744073709551616) : ((((4611686018427387904 + n / 4 : Nat) : Int) * 4294967296 % 18446744073709551616 + ((n % 4 * 1073741824 : Nat) : Int)) % 18446744073709551616 - ((2147483648 + n / 8589934592 : Nat) : Int) * 9223372036854775808 % 18446744073709551616) % 18446744073709551616 = ((n / 4 % 2147483648 * 4294967296 + n % 4 * 1073741824 : Nat) : Int) := by omega
theorem ar_eq0 (n : Nat) (hn : n < 18446744073709551616) : ((n / 4 % 2147483648 * 4294967296 + n % 4 * 1073741824 : Nat) : Int) / 2147483648 % 18446744073709551616 = ((n / 4 % 2147483648 * 2 + n % 4 / 2 : Nat) : Int) := by omega
theorem ar_erh2 (n : Nat) (hn : n < 18446744073709551616) : (((n / 4 % 2147483648 * 4294967296 + n % 4 * 1073741824 : Nat) : Int) - ((n / 4 % 2147483648 * 2 + n % 4 / 2 : Nat) : Int) * 2147483648 % 18446744073709551616) % 18446744073709551616 = ((n % 2 * 1073741824 : Nat) : Int) := by omega
theorem ar_equo (n : Nat) (hn : n < 18446744073709551616) : (((2147483648 + n / 8589934592 : Nat) : Int) * 4294967296 % 18446744073709551616 + ((n / 4 % 2147483648 * 2 + n % 4 / 2 : Nat) : Int)) % 18446744073709551616 = (1 * 18446744073709551616 + (n : Int)) / 2 := by omega
theorem ar_erem (n : Nat) (hn : n < 18446744073709551616) : (((((n / 4 % 2147483648 * 4294967296 + n % 4 * 1073741824 : Nat) : Int) * 4294967296 % 18446744073709551616 + 0) % 18446744073709551616 - ((n / 4 % 2147483648 * 2 + n % 4 / 2 : Nat) : Int) * 9223372036854775808 % 18446744073709551616) % 18446744073709551616) / ((4611686018427387904:Nat):Int) = (n : Int) % 2 := by omega
theorem ar_s (n : Nat) : (n : Int) / ((2 ^ 2 : Nat) : Int) = ((n / 4 : Nat) : Int) := by omega
theorem ar_t1 (n : Nat) (hn : n < 18446744073709551616) : decide (((2147483648 + n / 8589934592 : Nat) : Int) ≥ 4294967296) = false := by rw [decide_eq_false_iff_not]; omega
theorem ar_t2 (n : Nat) (hn : n < 18446744073709551616) (a b : Nat) (ha : a < 2147483648) (hb : b < 4294967296) : decide (((2147483648 + n / 8589934592 : Nat) : Int) * 0 % 18446744073709551616 > (4294967296 * (a : Int) % 18446744073709551616 + (b : Int)) % 18446744073709551616) = false := by rw [decide_eq_false_iff_not]; omega
theorem ar_u (n : Nat) : n % 4 * 1073741824 < 4294967296 := by omega
theorem ar_t3 (n : Nat) (hn : n < 18446744073709551616) : decide (((n / 4 % 2147483648 * 2 + n % 4 / 2 : Nat) : Int) ≥ 4294967296) = false := by rw [decide_eq_false_iff_not]; omega
theorem ar_t4 (n : Nat) (hn : n < 18446744073709551616) : decide (((n / 4 % 2147483648 * 2 + n % 4 / 2 : Nat) : Int) * 0 % 18446744073709551616 > (4294967296 * ((n % 2 * 1073741824 : Nat) : Int) % 18446744073709551616 + 0) % 18446744073709551616) = false := by rw [decide_eq_false_iff_not]; omega
theorem nn (n : Nat) {x : Int} (h : x = (n : Int)) : 0 ≤ x := by rw [h]; exact Int.natCast_nonneg n
/-- Div64 by two. -/
theorem f_Div64 (r w : Int) (hr : 0 ≤ r ∧ r ≤ 1) (hw : 0 ≤ w ∧ w < 18446744073709551616) : Gives Tryz.prog 128 [.int .u64 r, .int .u64 w, .int .u64 2] (.tuple #[.int .u64 ((r * 18446744073709551616 + w) / 2), .int .u64 (w % 2)]) := by
  obtain ⟨n, rfl⟩ := Int.eq_ofNat_of_zero_le hw.1
  have hn : n < 18446744073709551616 := by omega
  have ew : wE.eval (fun _ => (n : Int)) = (n : Int) := by
    show IntKind.u64.wrap (n : Int) = n
    rw [wrap_u64]; omega
  have hc : r = 0 ∨ r = 1 := by omega
  clear hr hw
  rcases hc with rfl | rfl
  · have := run_gives (fun _ => (n : Int)) [] [] no_row no_test _ 300 div_run0
    simp only [List.map_cons, List.map_nil, valV_tup2, val_u1, val_x1, ew] at this
    rw [ev_quo _ _ _ (by decide) (nn n ew), ev_rem _ _ _ (by decide) (nn n ew), ew] at this
    clear ew
    rw [show (n : Int) / 2 % 18446744073709551616 = (n : Int) / 2 by clear this; omega] at this
    rw [show (0 * 18446744073709551616 + (n : Int)) / 2 = (n : Int) / 2 by clear this; omega]
    exact this
  · have e32 : un32E.eval (fun _ => (n : Int)) = ((4611686018427387904 + n / 4 : Nat) : Int) := by
      have hs : (Exp.bin .shr .u64 wE (.lit 2)).eval (fun _ => (n : Int)) = ((n / 4 : Nat) : Int) := by
        have := ev_shr (fun _ => (n : Int)) wE 2 (by decide)
        rw [ew, ar_s] at this
        exact this
      have h4 : n / 4 < 2 ^ 62 := by clear hs ew; omega
      rw [un32E, ev_or _ _ _ 4611686018427387904 (n / 4) (by decide) (Nat.lt_trans h4 (by decide)) rfl hs, or_lem _ h4]
    have e10 : un10E.eval (fun _ => (n : Int)) = ((n % 4 * 4611686018427387904 : Nat) : Int) := by
      have := ev_shl (fun _ => (n : Int)) wE 62 (by decide)
      rw [ew, show (2 ^ 62 : Nat) = 4611686018427387904 by decide, ar_e10 n hn] at this
      exact this
    have e1 : un1E.eval (fun _ => (n : Int)) = ((n % 4 * 1073741824 : Nat) : Int) := by
      have := ev_shr (fun _ => (n : Int)) un10E 32 (by decide)
      rw [e10, show (2 ^ 32 : Nat) = 4294967296 by decide, ar_e1 n hn] at this
      exact this
    have h3 : n % 4 * 4611686018427387904 < 2 ^ 64 := by clear e32 e10 e1 ew; omega
    have e0 : un0E.eval (fun _ => (n : Int)) = 0 := by
      rw [un0E, ev_and _ _ _ (n % 4 * 4611686018427387904) 4294967295 h3 (by decide) e10 rfl, and_lem]
      clear e32 e10 e1 ew; omega
    have eq1 : q1E.eval (fun _ => (n : Int)) = ((2147483648 + n / 8589934592 : Nat) : Int) := by
      rw [q1E, ev_quo _ _ _ (by decide) (nn _ e32), e32]; exact ar_eq1 n hn
    have erh : rhE.eval (fun _ => (n : Int)) = ((n / 4 % 2147483648 : Nat) : Int) := by
      rw [rhE, ev_sub, ev_mul, e32, eq1, ev_lit]; exact ar_erh n hn
    have e21 : un21E.eval (fun _ => (n : Int)) = ((n / 4 % 2147483648 * 4294967296 + n % 4 * 1073741824 : Nat) : Int) := by
      rw [un21E, ev_sub, ev_add, ev_mul, ev_mul, e32, eq1, e1, ev_lit, ev_lit]; exact ar_e21 n hn
    have eq0 : q0E.eval (fun _ => (n : Int)) = ((n / 4 % 2147483648 * 2 + n % 4 / 2 : Nat) : Int) := by
      rw [q0E, ev_quo _ _ _ (by decide) (nn _ e21), e21]; exact ar_eq0 n hn
    have erh' : rh'E.eval (fun _ => (n : Int)) = ((n % 2 * 1073741824 : Nat) : Int) := by
      rw [rh'E, ev_sub, ev_mul, e21, eq0, ev_lit]; exact ar_erh2 n hn
    have equo : quoE.eval (fun _ => (n : Int)) = (1 * 18446744073709551616 + (n : Int)) / 2 := by
      rw [quoE, ev_add, ev_mul, eq1, eq0, ev_lit]; exact ar_equo n hn
    have erem : remE.eval (fun _ => (n : Int)) = (n : Int) % 2 := by
      rw [remE, show (Exp.lit 62) = Exp.lit ((62 : Nat) : Int) from rfl, ev_shr _ _ 62 (by decide), ev_sub, ev_add, ev_mul, ev_mul, e21, e0, eq0, ev_lit, ev_lit, show (2 ^ 62 : Nat) = 4611686018427387904 by decide]; exact ar_erem n hn
    have ht : ∀ t ∈ divTests, TestOk (fun _ => (n : Int)) t := by
      intro t ht k
      simp only [divTests, List.mem_cons, List.not_mem_nil, or_false] at ht
      rcases ht with rfl | rfl | rfl | rfl
      · simp only [intBin, eq1, ev_lit, ar_t1 n hn]
      · simp only [intBin, ev_mul, ev_add, eq1, erh, e1, ev_lit]
        rw [ar_t2 n hn _ _ (Nat.mod_lt _ (by decide)) (ar_u n)]
      · simp only [intBin, eq0, ev_lit, ar_t3 n hn]
      · simp only [intBin, ev_mul, ev_add, eq0, erh', e0, ev_lit]
        rw [ar_t4 n hn]
    have := run_gives (fun _ => (n : Int)) [] divTests no_row ht _ 300 div_run1
    simp only [List.map_cons, List.map_nil, valV_tup2, val_u1, val_x1, ew, equo, erem] at this
    exact this
end Go.Proofs.YtfeapgpjchjphaaGreat
namespace Go.Proofs.YtfeapgpjchjphaaGreat
open Go Go.Rx Go.RowKit

/-- n has L words. -/
def hasLen (n L : Nat) : Prop := n < 2 ^ (64 * L) ∧ (L ≠ 0 → dig n (L - 1) ≠ 0)
theorem dig_high {n L i : Nat} (h : n < 2 ^ (64 * L)) (hi : L ≤ i) : dig n i = 0 := by
  have : 2 ^ (64 * L) ≤ 2 ^ (64 * i) := Nat.pow_le_pow_right (by decide) (by omega)
  unfold dig
  rw [Nat.div_eq_of_lt (by omega)]
theorem has_len (n k : Nat) : n < 2 ^ (64 * k) → ∃ L, L ≤ k ∧ hasLen n L := by
  induction k with
  | zero => intro h; exact ⟨0, Nat.le_refl _, h, fun h => absurd rfl h⟩
  | succ k ih =>
    intro h
    by_cases hd : dig n k = 0
    · have hl := low_step n k
      rw [Nat.mod_eq_of_lt h, hd, Nat.mul_zero, Nat.zero_add] at hl
      have hm := Nat.mod_lt n (show 0 < 2 ^ (64 * k) from Nat.pow_pos (by decide))
      rw [← hl] at hm
      obtain ⟨L, h1, h2⟩ := ih hm
      exact ⟨L, Nat.le_succ_of_le h1, h2⟩
    · exact ⟨k + 1, Nat.le_refl _, h, fun _ => hd⟩
theorem nine {L : Nat} (h : L ≤ 8) : L = 0 ∨ L = 1 ∨ L = 2 ∨ L = 3 ∨ L = 4 ∨ L = 5 ∨ L = 6 ∨ L = 7 ∨ L = 8 := by omega
def lenTests (L : Nat) : List Test := ((List.range (8 - L)).map fun t => (⟨.eql, .inp .u64 (8 * 0 + (7 - t)), .lit 0, true⟩ : Test)) ++ (if L = 0 then [] else [⟨.eql, .inp .u64 (8 * 0 + (L - 1)), .lit 0, false⟩])
theorem len_run (L : Nat) (h : L ≤ 8) (σ : Nat → Int) : runs σ [] (lenTests L) ⟨106, [inN 0], .s (i1 L)⟩ 100 = true := by
  rcases nine h with rfl | rfl | rfl | rfl | rfl | rfl | rfl | rfl | rfl <;> kernel_rfl
/-- (magnitude).length. -/
theorem f_length (n L : Nat) (hL : L ≤ 8) (h : hasLen n L) : Gives Tryz.prog 106 [magV n] (.int .i64 L) := by
  have e := inp_sigN (fun _ => n) 0
  have ht : ∀ t ∈ lenTests L, TestOk (sigN fun _ => n) t := by
    intro t ht k
    simp only [lenTests, List.mem_append, List.mem_map, List.mem_range] at ht
    rcases ht with ⟨q, hq, rfl⟩ | ht
    · simp only [intBin, ev_lit]
      rw [e (7 - q) (by omega), dig_high h.1 (by omega)]
      rfl
    · split at ht
      · cases ht
      · rename_i hj
        simp only [List.mem_cons, List.not_mem_nil, or_false] at ht
        subst ht
        simp only [intBin, ev_lit]
        rw [e (L - 1) (by omega)]
        have hne := h.2 hj
        generalize dig n (L - 1) = d at hne
        congr 2
        simp only [beq_eq_false_iff_ne, ne_eq]
        omega
  have := run_gives (sigN fun _ => n) [] _ no_row ht _ 100 (len_run L hL)
  simp only [List.map_cons, List.map_nil, val_inN, valV_s, val_i1] at this
  exact this

/-! ### Halves -/
def sigH (m : Nat) (i : Nat) : Int := if i < 8 then (dig m i : Int) else if i < 16 then (dig (m / 2) (i - 8) : Int) else ((dig m (i - 16) % 2 : Nat) : Int)
theorem sigH0 (m i : Nat) (h : i < 8) : (Exp.inp .u64 (0 + i)).eval (sigH m) = dig m i := by
  have := dig_lt m i
  simp only [Exp.eval, wrap_u64, sigH, show 0 + i < 8 by omega, if_true, Nat.zero_add]; omega
theorem sigH1 (m i : Nat) (h : i < 8) : (Exp.inp .u64 (8 + i)).eval (sigH m) = dig (m / 2) i := by
  have := dig_lt (m / 2) i
  simp only [Exp.eval, wrap_u64, sigH, show ¬ (8 + i < 8) by omega, show 8 + i < 16 by omega, if_true, if_false, show 8 + i - 8 = i by omega]; omega
theorem sigH2 (m i : Nat) : (Exp.inp .u64 (16 + i)).eval (sigH m) = ((dig m i % 2 : Nat) : Int) := by
  have := dig_lt m i
  simp only [Exp.eval, wrap_u64, sigH, show ¬ (16 + i < 8) by omega, show ¬ (16 + i < 16) by omega, if_false, show 16 + i - 16 = i by omega]; omega
theorem half_dig (m i : Nat) : dig (m / 2) i = ((dig m (i + 1) % 2) * 18446744073709551616 + dig m i) / 2 := by
  have h := div_step m i
  have e : m / 2 / 2 ^ (64 * i) = m / 2 ^ (64 * i) / 2 := by rw [Nat.div_div_eq_div_mul, Nat.mul_comm, ← Nat.div_div_eq_div_mul]
  have hd := dig_lt m i
  have hq : dig m (i + 1) % 2 = m / 2 ^ (64 * (i + 1)) % 2 := by unfold dig; omega
  have hx : dig (m / 2) i = m / 2 / 2 ^ (64 * i) % 2 ^ 64 := rfl
  rw [hx, e, h, hq]
  generalize dig m i = d at *
  generalize m / 2 ^ (64 * (i + 1)) = q
  omega
def remIn (L i : Nat) : V1 := if i + 1 = L then u1 0 else x1 (.inp .u64 (16 + (i + 1)))
def divRow (L i : Nat) : Row := ⟨128, [remIn L i, x1 (.inp .u64 (0 + i)), u1 2], .tup [x1 (.inp .u64 (8 + i)), x1 (.inp .u64 (16 + i))]⟩
def divRows (L : Nat) : List Row := ⟨106, [inW 0], .s (i1 L)⟩ :: (List.range L).map (divRow L)
def halfC (L i : Nat) : C := if i < L then .ex .u64 (.inp .u64 (8 + i)) else .v (.int .u64 0)
def half8 (L : Nat) : V1 := .agg [halfC L 0, halfC L 1, halfC L 2, halfC L 3, halfC L 4, halfC L 5, halfC L 6, halfC L 7]
def remOut (L : Nat) : V1 := if L = 0 then u1 0 else x1 (.inp .u64 (16 + 0))
theorem half_run (L : Nat) (h : L ≤ 8) (σ : Nat → Int) : runs σ (divRows L) [] ⟨109, [inW 0, u1 2], .tup [half8 L, remOut L]⟩ 200 = true := by
  rcases nine h with rfl | rfl | rfl | rfl | rfl | rfl | rfl | rfl | rfl <;> kernel_rfl
theorem val_half (m L i : Nat) (hi : i < 8) (h : m < 2 ^ (64 * L)) : valC (sigH m) (halfC L i) = .int .u64 (dig (m / 2) i) := by
  unfold halfC
  split
  · show Value.int .u64 ((Exp.inp .u64 (8 + i)).eval (sigH m)) = _
    rw [sigH1 m i hi]
  · rw [dig_high (n := m / 2) (L := L) (by omega) (by omega)]
    rfl
/-- (magnitude).divideByWord by two. -/
theorem f_half (m : Nat) (hm : m < 13407807929942597099574024998205846127479365820592393377723561443721764030073546976801874298166903427690031858186486050853753882811946569946433649006084096) : Gives Tryz.prog 109 [magV m, .int .u64 2] (.tuple #[magV (m / 2), .int .u64 ((m % 2 : Nat) : Int)]) := by
  obtain ⟨L, hL, hl⟩ := has_len m 8 (by rw [p2_eight]; exact hm)
  have v0 : val1 (sigH m) (inW 0) = magV m := val_w8 _ _ _ fun i hi => sigH0 m i hi
  have hr : ∀ r ∈ divRows L, RowGives Tryz.prog (sigH m) r := by
    intro r hr
    simp only [divRows, List.mem_cons, List.mem_map, List.mem_range] at hr
    rcases hr with rfl | ⟨i, hi, rfl⟩
    · refine ⟨rfl, ?_⟩
      simp only [List.map_cons, List.map_nil, v0, valV_s, val_i1]
      exact f_length m L hL hl
    · have hd := dig_lt m i
      refine ⟨?_, ?_⟩
      · unfold divRow remIn
        by_cases hc : i + 1 = L
        · simp only [hc, if_true]; rfl
        · simp only [hc, if_false]; rfl
      · have key : ∀ q : Nat, q = dig m (i + 1) % 2 → Gives Tryz.prog 128 [.int .u64 (q : Int), .int .u64 (dig m i : Int), .int .u64 2] (.tuple #[.int .u64 (dig (m / 2) i : Int), .int .u64 ((dig m i % 2 : Nat) : Int)]) := fun q hq => by
          have hh := half_dig m i
          rw [← hq] at hh
          have := f_Div64 q (dig m i) ⟨by omega, by omega⟩ ⟨by omega, by omega⟩
          rw [show ((q : Int) * 18446744073709551616 + (dig m i : Int)) / 2 = ((dig (m / 2) i : Nat) : Int) by rw [hh]; omega, show (dig m i : Int) % 2 = ((dig m i % 2 : Nat) : Int) by omega] at this
          exact this
        simp only [divRow, List.map_cons, List.map_nil, valV_tup2, val_u1, val_x1, sigH0 m i (by omega), sigH1 m i (by omega), sigH2]
        unfold remIn
        by_cases hc : i + 1 = L
        · rw [if_pos hc, val_u1]
          exact key 0 (by rw [dig_high hl.1 (by omega)])
        · rw [if_neg hc, val_x1, sigH2]
          exact key _ rfl
  have := run_gives (sigH m) _ [] hr no_test _ 200 (half_run L hL)
  simp only [List.map_cons, List.map_nil, v0, valV_tup2, val_u1] at this
  have e8 : val1 (sigH m) (half8 L) = magV (m / 2) := by
    simp only [half8, val1, magV, List.map_cons, List.map_nil, val_half m L _ (show 0 < 8 by decide) hl.1, val_half m L _ (show 1 < 8 by decide) hl.1, val_half m L _ (show 2 < 8 by decide) hl.1, val_half m L _ (show 3 < 8 by decide) hl.1, val_half m L _ (show 4 < 8 by decide) hl.1, val_half m L _ (show 5 < 8 by decide) hl.1, val_half m L _ (show 6 < 8 by decide) hl.1, val_half m L _ (show 7 < 8 by decide) hl.1]
  have e1 : val1 (sigH m) (remOut L) = .int .u64 ((m % 2 : Nat) : Int) := by
    unfold remOut
    split
    · rename_i h0
      subst h0
      have : m = 0 := by have := hl.1; simp at this; exact this
      subst this; rfl
    · rw [val_x1, sigH2]
      congr 2
      unfold dig
      simp only [Nat.mul_zero, Nat.pow_zero, Nat.div_one]
      omega
  rw [e8, e1] at this
  exact this
end Go.Proofs.YtfeapgpjchjphaaGreat
namespace Go.Proofs.YtfeapgpjchjphaaGreat
open Go Go.Rx Go.RowKit

theorem val_mag (σ : Nat → Int) (n : Nat) : val1 σ (mag n) = magV n := rfl
theorem two_way {r : Nat} (h : r < 2) : r = 0 ∨ r = 1 := by omega
theorem divide_run (r : Nat) (h : r < 2) (σ : Nat → Int) : runs σ [⟨109, [inN 0, u1 2], .tup [inN 1, u1 r]⟩] [] ⟨126, [inN 0, mag 2], .tup [inN 1, mag r]⟩ 200 = true := by
  rcases two_way h with rfl | rfl <;> kernel_rfl
/-- (magnitude).divide by two. -/
theorem f_divide (m : Nat) (hm : m < 13407807929942597099574024998205846127479365820592393377723561443721764030073546976801874298166903427690031858186486050853753882811946569946433649006084096) : Gives Tryz.prog 126 [magV m, magV 2] (.tuple #[magV (m / 2), magV (m % 2)]) := by
  have r1 : RowGives Tryz.prog (sigN (lst [m, m / 2])) ⟨109, [inN 0, u1 2], .tup [inN 1, u1 (m % 2 : Nat)]⟩ := by
    refine ⟨rfl, ?_⟩
    simp only [List.map_cons, List.map_nil, val_inN, valV_tup2, val_u1]
    exact f_half m hm
  have := run_gives _ _ [] (one_row r1) no_test _ 200 (divide_run (m % 2) (Nat.mod_lt _ (by decide)))
  simp only [List.map_cons, List.map_nil, val_inN, valV_tup2, val_mag] at this
  exact this

def sg2 : V1 := .agg [word 2 0, word 2 1, word 2 2, word 2 3, word 2 4, word 2 5, word 2 6, word 2 7, .v (.bool false)]
theorem val_sg2 (σ : Nat → Int) : val1 σ sg2 = sgV 2 false := by kernel_rfl
/-- The size of the quotient by two. -/
def halfS (m : Nat) (b : Bool) : Nat := if b = true ∧ m % 2 = 1 then m / 2 + 1 else m / 2
theorem sg_half (x : Int) : sg (halfS x.natAbs (decide (x < 0))) (decide (x < 0)) = x / 2 := by
  unfold sg halfS
  by_cases h : x < 0
  · simp only [h, decide_true, if_true, true_and]
    split <;> omega
  · simp only [h, decide_false, Bool.false_eq_true, if_false, false_and]
    omega
end Go.Proofs.YtfeapgpjchjphaaGreat
namespace Go.Proofs.YtfeapgpjchjphaaGreat
open Go Go.Rx Go.RowKit

def mx0 : Exp := .bin .and .u64 wE (.lit 4294967295)
def mx1 : Exp := .bin .shr .u64 wE (.lit 32)
def mw0 : Exp := .bin .mul .u64 mx0 (.lit 2)
def mt : Exp := .bin .add .u64 (.bin .mul .u64 mx1 (.lit 2)) (.bin .shr .u64 mw0 (.lit 32))
def mw1 : Exp := .bin .add .u64 (.bin .and .u64 mt (.lit 4294967295)) (.bin .mul .u64 mx0 (.lit 0))
def mhi : Exp := .bin .add .u64 (.bin .add .u64 (.bin .mul .u64 mx1 (.lit 0)) (.bin .shr .u64 mt (.lit 32))) (.bin .shr .u64 mw1 (.lit 32))
def mlo : Exp := .bin .mul .u64 wE (.lit 2)
theorem mul_run (σ : Nat → Int) : runs σ [] [] ⟨122, [x1 wE, u1 2], .tup [x1 mhi, x1 mlo]⟩ 200 = true := by kernel_rfl
theorem am_1 (n : Nat) (_ : n < 18446744073709551616) : (n : Int) / ((2 ^ 32 : Nat) : Int) = ((n / 4294967296 : Nat) : Int) := by omega
theorem am_2 (n : Nat) (_ : n < 18446744073709551616) : ((n % 4294967296 : Nat) : Int) * 2 % 18446744073709551616 = ((n % 4294967296 * 2 : Nat) : Int) := by omega
theorem am_3 (n : Nat) (_ : n < 18446744073709551616) : ((n % 4294967296 * 2 : Nat) : Int) / ((2 ^ 32 : Nat) : Int) = ((n % 4294967296 / 2147483648 : Nat) : Int) := by omega
theorem am_4 (n : Nat) (_ : n < 18446744073709551616) : (((n / 4294967296 : Nat) : Int) * 2 % 18446744073709551616 + ((n % 4294967296 / 2147483648 : Nat) : Int)) % 18446744073709551616 = ((n / 2147483648 : Nat) : Int) := by omega
theorem am_5 (n : Nat) (_ : n < 18446744073709551616) : (((n / 2147483648 % 4294967296 : Nat) : Int) + ((n % 4294967296 : Nat) : Int) * 0 % 18446744073709551616) % 18446744073709551616 = ((n / 2147483648 % 4294967296 : Nat) : Int) := by omega
theorem am_6 (n : Nat) (_ : n < 18446744073709551616) : ((((n / 4294967296 : Nat) : Int) * 0 % 18446744073709551616 + ((n / 2147483648 : Nat) : Int) / ((2 ^ 32 : Nat) : Int)) % 18446744073709551616 + ((n / 2147483648 % 4294967296 : Nat) : Int) / ((2 ^ 32 : Nat) : Int)) % 18446744073709551616 = ((n / 9223372036854775808 : Nat) : Int) := by omega
theorem am_7 (n : Nat) (_ : n < 18446744073709551616) : (n : Int) * 2 % 18446744073709551616 = ((n * 2 % 18446744073709551616 : Nat) : Int) := by omega
theorem am_8 (n : Nat) (_ : n < 18446744073709551616) : n / 2147483648 < 2 ^ 64 := by omega
/-- Mul64 by two. -/
theorem f_Mul64 (n : Nat) (hn : n < 18446744073709551616) : Gives Tryz.prog 122 [.int .u64 n, .int .u64 2] (.tuple #[.int .u64 ((n / 9223372036854775808 : Nat) : Int), .int .u64 ((n * 2 % 18446744073709551616 : Nat) : Int)]) := by
  have ew : wE.eval (fun _ => (n : Int)) = (n : Int) := by
    show IntKind.u64.wrap (n : Int) = n
    rw [wrap_u64]; omega
  have e0 : mx0.eval (fun _ => (n : Int)) = ((n % 4294967296 : Nat) : Int) := by
    rw [mx0, ev_and _ _ _ n 4294967295 hn (by decide) ew rfl, and_lem]
  have e1 : mx1.eval (fun _ => (n : Int)) = ((n / 4294967296 : Nat) : Int) := by
    rw [mx1, show (Exp.lit 32) = Exp.lit ((32 : Nat) : Int) from rfl, ev_shr _ _ 32 (by decide), ew]; exact am_1 n hn
  have e2 : mw0.eval (fun _ => (n : Int)) = ((n % 4294967296 * 2 : Nat) : Int) := by
    rw [mw0, ev_mul, e0, ev_lit]; exact am_2 n hn
  have e3 : mt.eval (fun _ => (n : Int)) = ((n / 2147483648 : Nat) : Int) := by
    rw [mt, show (Exp.lit 32) = Exp.lit ((32 : Nat) : Int) from rfl, ev_add, ev_mul, ev_shr _ _ 32 (by decide), e1, e2, ev_lit, am_3 n hn]; exact am_4 n hn
  have e4 : mw1.eval (fun _ => (n : Int)) = ((n / 2147483648 % 4294967296 : Nat) : Int) := by
    rw [mw1, ev_add, ev_mul, ev_and _ _ _ (n / 2147483648) 4294967295 (am_8 n hn) (by decide) e3 rfl, and_lem, e0, ev_lit]; exact am_5 n hn
  have e5 : mhi.eval (fun _ => (n : Int)) = ((n / 9223372036854775808 : Nat) : Int) := by
    rw [mhi, show (Exp.lit 32) = Exp.lit ((32 : Nat) : Int) from rfl, ev_add, ev_add, ev_mul, ev_shr _ _ 32 (by decide), ev_shr _ _ 32 (by decide), e1, e3, e4, ev_lit]; exact am_6 n hn
  have e6 : mlo.eval (fun _ => (n : Int)) = ((n * 2 % 18446744073709551616 : Nat) : Int) := by
    rw [mlo, ev_mul, ew, ev_lit]; exact am_7 n hn
  have := run_gives (fun _ => (n : Int)) [] [] no_row no_test _ 200 mul_run
  simp only [List.map_cons, List.map_nil, valV_tup2, val_u1, val_x1, ew, e5, e6] at this
  exact this
end Go.Proofs.YtfeapgpjchjphaaGreat
