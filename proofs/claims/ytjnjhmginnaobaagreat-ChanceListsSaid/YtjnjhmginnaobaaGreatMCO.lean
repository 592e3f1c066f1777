/-
  The generator's mixing undone: numbers.
-/
import Derived.Test.YtjnjhmginnaobaaGreatMCI
import Derived.Laws.BitsAllLaws
set_option linter.all false
namespace Go.Proofs.YtjnjhmginnaobaaGreat
open Go Go.RowKit Go.Big Go.Shelf
theorem xs_nat (k : Nat) (h3 : 64 ≤ 3 * k) (u : Nat) (hu : u < 2 ^ 64) : (u ^^^ ((u >>> k) ^^^ (u >>> (2 * k)))) ^^^ ((u ^^^ ((u >>> k) ^^^ (u >>> (2 * k)))) >>> k) = u := by
  apply Nat.eq_of_testBit_eq
  intro i
  simp only [Nat.testBit_xor, Nat.testBit_shiftRight]
  have e1 : u.testBit (2 * k + (k + i)) = false := Nat.testBit_lt_two_pow (Nat.lt_of_lt_of_le hu (Nat.pow_le_pow_right (by decide) (by omega)))
  have e2 : k + (k + i) = 2 * k + i := by omega
  rw [e1, e2]
  cases u.testBit i <;> cases u.testBit (k + i) <;> cases u.testBit (2 * k + i) <;> rfl
def unX (K K2 : Int) (a : Int) : Int := bits BinOp.xor IntKind.u64 a (bits BinOp.xor IntKind.u64 (a / K) (a / K2))
theorem xor_lt {a b : Nat} (ha : a < 18446744073709551616) (hb : b < 18446744073709551616) : a ^^^ b < 18446744073709551616 := by
  have := Nat.xor_lt_two_pow (n := 64) (show a < 2 ^ 64 from ha) (show b < 2 ^ 64 from hb)
  exact this
theorem xs_int (k K K2 : Nat) (hK : K = 2 ^ k) (hK2 : K2 = 2 ^ (2 * k)) (h3 : 64 ≤ 3 * k) (a : Int) (h0 : 0 ≤ a) (h1 : a < 18446744073709551616) :
    0 ≤ unX K K2 a ∧ unX K K2 a < 18446744073709551616 ∧ bits BinOp.xor IntKind.u64 (unX K K2 a) (unX K K2 a / K) = a := by
  obtain ⟨u, rfl⟩ := Int.eq_ofNat_of_zero_le h0
  have hu : u < 18446744073709551616 := by omega
  have d1 : ((u : Int) / (K : Int)) = ((u >>> k : Nat) : Int) := by rw [Nat.shiftRight_eq_div_pow, ← hK]; rfl
  have d2 : ((u : Int) / (K2 : Int)) = ((u >>> (2 * k) : Nat) : Int) := by rw [Nat.shiftRight_eq_div_pow, ← hK2]; rfl
  have l1 : u >>> k < 18446744073709551616 := Nat.lt_of_le_of_lt (Nat.shiftRight_le _ _) hu
  have l2 : u >>> (2 * k) < 18446744073709551616 := Nat.lt_of_le_of_lt (Nat.shiftRight_le _ _) hu
  have e1 : unX K K2 (u : Int) = ((u ^^^ ((u >>> k) ^^^ (u >>> (2 * k))) : Nat) : Int) := by
    unfold unX
    rw [d1, d2, u64_xor_nat _ _ l1 l2, u64_xor_nat _ _ hu (xor_lt l1 l2)]
  have l3 : u ^^^ ((u >>> k) ^^^ (u >>> (2 * k))) < 18446744073709551616 := xor_lt hu (xor_lt l1 l2)
  rw [e1]
  refine ⟨by omega, by omega, ?_⟩
  have dd : ∀ v : Nat, ((v : Int) / (K : Int)) = ((v >>> k : Nat) : Int) := fun v => by rw [Nat.shiftRight_eq_div_pow, ← hK]; rfl
  rw [dd, u64_xor_nat _ _ l3 (Nat.lt_of_le_of_lt (Nat.shiftRight_le _ _) l3), xs_nat k h3 u hu]
theorem mul_inv {a I M : Int} (h0 : 0 ≤ a) (h1 : a < 18446744073709551616) (h : (I * M) % 18446744073709551616 = 1) : IntKind.u64.wrap (IntKind.u64.wrap (a * I) * M) = a := by
  rw [wrap_u, wrap_u]
  have e : a * I % 18446744073709551616 * M % 18446744073709551616 = a * I * M % 18446744073709551616 := by
    rw [Int.mul_emod, Int.emod_emod, ← Int.mul_emod]
  rw [e, Int.mul_assoc, Int.mul_emod, h, Int.mul_one, Int.emod_emod]
  exact Int.emod_eq_of_lt h0 h1
def b2 (x : Int) : Int := IntKind.u64.wrap (unX 2147483648 4611686018427387904 x * 3573116690164977347)
def b4 (x : Int) : Int := IntKind.u64.wrap (unX 134217728 18014398509481984 (b2 x) * 10871156337175269513)
def bef (x : Int) : Int := IntKind.u64.wrap (unX 1073741824 1152921504606846976 (b4 x) - 11400714819323198485)
theorem wrap_range (v : Int) : 0 ≤ IntKind.u64.wrap v ∧ IntKind.u64.wrap v < 18446744073709551616 := by
  rw [wrap_u]; exact ⟨Int.emod_nonneg _ (by decide), Int.emod_lt_of_pos _ (by decide)⟩
theorem mix_bef (x : Int) (h0 : 0 ≤ x) (h1 : x < 18446744073709551616) : mix (bef x) = x := by
  obtain ⟨p0, p1, p2⟩ := xs_int 31 2147483648 4611686018427387904 (by decide) (by decide) (by decide) x h0 h1
  have r2 := wrap_range (unX 2147483648 4611686018427387904 x * 3573116690164977347)
  obtain ⟨q0, q1, q2⟩ := xs_int 27 134217728 18014398509481984 (by decide) (by decide) (by decide) (b2 x) r2.1 r2.2
  have r4 := wrap_range (unX 134217728 18014398509481984 (b2 x) * 10871156337175269513)
  obtain ⟨s0, s1, s2⟩ := xs_int 30 1073741824 1152921504606846976 (by decide) (by decide) (by decide) (b4 x) r4.1 r4.2
  have e5 : st (bef x) = unX 1073741824 1152921504606846976 (b4 x) := by
    unfold st bef
    rw [wrap_u, wrap_u]
    generalize unX 1073741824 1152921504606846976 (b4 x) = v at *
    omega
  unfold mix
  rw [e5]
  have m1 : mxa (unX 1073741824 1152921504606846976 (b4 x)) = unX 134217728 18014398509481984 (b2 x) := by
    unfold mxa
    rw [show bits BinOp.xor IntKind.u64 (unX 1073741824 1152921504606846976 (b4 x)) (unX 1073741824 1152921504606846976 (b4 x) / 1073741824) = b4 x from s2]
    exact mul_inv q0 q1 (by decide)
  have m2 : mx2 (unX 134217728 18014398509481984 (b2 x)) = unX 2147483648 4611686018427387904 x := by
    unfold mx2
    rw [show bits BinOp.xor IntKind.u64 (unX 134217728 18014398509481984 (b2 x)) (unX 134217728 18014398509481984 (b2 x) / 134217728) = b2 x from q2]
    exact mul_inv p0 p1 (by decide)
  rw [m1, m2]
  exact p2
theorem stN_st (s : Int) : ∀ j, stN j (st s) = stN (j + 1) s
  | 0 => rfl
  | j + 1 => by show st (stN j (st s)) = _; rw [stN_st s j]; rfl
/-- What is drawn from the next state, if the first number is passed over. -/
theorem below_next {s n : Int} {r : Value} (h : BelowV s n r) (hno : okV n (mix s) = false) :
    r = .tuple #[.int .i64 0, .agg #[.int .u64 0], .int .i64 9] ∨ (∃ y z, r = .tuple #[.int .i64 y, .agg #[.int .u64 z], .int .i64 0] ∧ ∀ r2, BelowV (st s) n r2 → r2 = r) := by
  rcases h with ⟨i, hi, h1, h2, rfl⟩ | ⟨_, rfl⟩
  · refine .inr ⟨_, _, rfl, fun r2 h2' => ?_⟩
    obtain ⟨i, rfl⟩ : ∃ q, i = q + 1 := by
      cases i with
      | zero => rw [show mix (stN 0 s) = mix s from rfl, hno] at h2; cases h2
      | succ i => exact ⟨i, rfl⟩
    rcases h2' with ⟨i', hi', k1, k2, rfl⟩ | ⟨k1, rfl⟩
    · have : i' = i := by
        rcases Nat.lt_trichotomy i' i with h3 | h3 | h3
        · have := h1 (i' + 1) (by omega)
          rw [stN_st] at k2
          rw [this] at k2; cases k2
        · exact h3
        · have := k1 i h3
          rw [stN_st] at this
          rw [this] at h2; cases h2
      subst this
      rw [stN_st, stN_st]
    · have := k1 i (by omega)
      rw [stN_st] at this
      rw [this] at h2; cases h2
  · exact .inl rfl
theorem below_now {s n : Int} {r : Value} (h : BelowV s n r) (hok : okV n (mix s) = true) : r = .tuple #[.int .i64 (wrap64 ((mix s).tmod n)), .agg #[.int .u64 (st s)], .int .i64 0] := by
  rcases h with ⟨i, hi, h1, h2, rfl⟩ | ⟨h1, rfl⟩
  · cases i with
    | zero => rfl
    | succ i =>
      have := h1 0 (by omega)
      rw [show mix (stN 0 s) = mix s from rfl, hok] at this; cases this
  · have := h1 0 (by omega)
    rw [show mix (stN 0 s) = mix s from rfl, hok] at this; cases this
theorem wrap64_in {v : Int} (h0 : -9223372036854775808 ≤ v) (h1 : v < 9223372036854775808) : wrap64 v = v := by
  unfold wrap64; omega
/-- The limit that is drawn. -/
theorem limit_range (n : Int) : 1 ≤ wrap64 (1 + wrap64 ((IntKind.u64.wrap n).tmod 4611686018427387904)) ∧ wrap64 (1 + wrap64 ((IntKind.u64.wrap n).tmod 4611686018427387904)) < 9223372036854775808 := by
  obtain ⟨h0, h1⟩ := wrap_range n
  rw [Int.tmod_eq_emod_of_nonneg h0]
  have a := Int.emod_nonneg (IntKind.u64.wrap n) (show (4611686018427387904 : Int) ≠ 0 by decide)
  have b := Int.emod_lt_of_pos (IntKind.u64.wrap n) (show (0 : Int) < 4611686018427387904 by decide)
  generalize IntKind.u64.wrap n % 4611686018427387904 = q at *
  have e1 : wrap64 q = q := wrap64_in (by omega) (by omega)
  rw [e1]
  have e2 : wrap64 (1 + q) = 1 + q := wrap64_in (by omega) (by omega)
  rw [e2]
  omega
end Go.Proofs.YtjnjhmginnaobaaGreat
