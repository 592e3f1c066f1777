/-
  Every array of eight words is a wide integer.
-/
import Derived.Test.YtfeapgpjchjphaaGreatMI
set_option linter.all false
namespace Go.Proofs.YtfeapgpjchjphaaGreat
open Go Go.Rx Go.RowKit

theorem dig_cons0 (w r : Nat) (h : w < 18446744073709551616) : dig (w + 18446744073709551616 * r) 0 = w := by
  unfold dig
  rw [Nat.mul_zero, Nat.pow_zero, Nat.div_one]
  omega
theorem dig_cons (w r i : Nat) (h : w < 18446744073709551616) : dig (w + 18446744073709551616 * r) (i + 1) = dig r i := by
  unfold dig
  rw [show 64 * (i + 1) = 64 + 64 * i by omega, Nat.pow_add, ← Nat.div_div_eq_div_mul, show (w + 18446744073709551616 * r) / 2 ^ 64 = r by omega]
def build : List Nat → Nat
  | [] => 0
  | w :: l => w + 18446744073709551616 * build l
theorem magV_build (a b c d e f g h : Nat) (ha : a < 18446744073709551616) (hb : b < 18446744073709551616) (hc : c < 18446744073709551616) (hd : d < 18446744073709551616) (he : e < 18446744073709551616) (hf : f < 18446744073709551616) (hg : g < 18446744073709551616) (hh : h < 18446744073709551616) :
    magV (build [a, b, c, d, e, f, g, h]) = .agg #[.int .u64 a, .int .u64 b, .int .u64 c, .int .u64 d, .int .u64 e, .int .u64 f, .int .u64 g, .int .u64 h] := by
  simp only [magV, build, dig_cons _ _ _ ha, dig_cons _ _ _ hb, dig_cons _ _ _ hc, dig_cons _ _ _ hd, dig_cons _ _ _ he, dig_cons _ _ _ hf, dig_cons _ _ _ hg, dig_cons0 _ _ ha, dig_cons0 _ _ hb, dig_cons0 _ _ hc, dig_cons0 _ _ hd, dig_cons0 _ _ he, dig_cons0 _ _ hf, dig_cons0 _ _ hg, dig_cons0 _ _ hh]
theorem mag_wide (n : Nat) : ∃ x, fit x ∧ W x = magV n := by
  have hp := p512_nat
  have hl := Nat.mod_lt n pow512
  rw [← magV_mod n]
  generalize n % 13407807929942597099574024998205846127479365820592393377723561443721764030073546976801874298166903427690031858186486050853753882811946569946433649006084096 = k at *
  by_cases h : (k : Int) < P511
  · refine ⟨k, by unfold fit P511 at *; omega, ?_⟩
    have hf : fit k := by unfold fit P511 at *; omega
    have := un_pos hf (by omega)
    unfold W; rw [show un (k : Int) = k by omega]
  · refine ⟨k - P512, by unfold fit P511 P512 at *; omega, ?_⟩
    have hf : fit (k - P512) := by unfold fit P511 P512 at *; omega
    have := un_neg hf (by unfold P512 at *; omega)
    unfold W; rw [show un ((k : Int) - P512) = k by omega]
/-- Whatever eight words are handed in, the law answers true. -/
theorem words_wide (a b c d e f g h : Nat) (ha : a < 18446744073709551616) (hb : b < 18446744073709551616) (hc : c < 18446744073709551616) (hd : d < 18446744073709551616) (he : e < 18446744073709551616) (hf : f < 18446744073709551616) (hg : g < 18446744073709551616) (hh : h < 18446744073709551616) :
    ∃ x, fit x ∧ W x = .agg #[.int .u64 a, .int .u64 b, .int .u64 c, .int .u64 d, .int .u64 e, .int .u64 f, .int .u64 g, .int .u64 h] := by
  obtain ⟨x, h1, h2⟩ := mag_wide (build [a, b, c, d, e, f, g, h])
  exact ⟨x, h1, by rw [h2, magV_build a b c d e f g h ha hb hc hd he hf hg hh]⟩
end Go.Proofs.YtfeapgpjchjphaaGreat
