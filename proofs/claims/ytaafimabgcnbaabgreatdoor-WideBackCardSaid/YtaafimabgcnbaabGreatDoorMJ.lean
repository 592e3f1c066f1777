/-
  Every array of eight words is a wide integer.
  The law WideEnds answers true for every two arrays of eight words: the statement as it is given.
-/
import Derived.Test.YtaafimabgcnbaabGreatDoorMI
import Derived.WalkKit
import Derived.ProofKit
import Derived.OpenShut
import Derived.ChangeOld
import Derived.Carry
set_option linter.all false
namespace Go.Proofs.YtaafimabgcnbaabGreatDoor
open Go Go.Rx Go.RowKit

theorem dig_cons0 (w r : Nat) (h : w < 18446744073709551616) : dig (w + 18446744073709551616 * r) 0 = w := by
  unfold dig
  rw [Nat.mul_zero, Nat.pow_zero, Nat.div_one]
  omega
theorem dig_cons (w r i : Nat) (h : w < 18446744073709551616) : dig (w + 18446744073709551616 * r) (i + 1) = dig r i := by
  unfold dig
  rw [show 64 * (i + 1) = 64 + 64 * i by omega, Nat.pow_add, ← Nat.div_div_eq_div_mul, show (w + 18446744073709551616 * r) / 2 ^ 64 = r by omega]
def build : List Nat → Nat
  | [] => 0
  | w :: l => w + 18446744073709551616 * build l
theorem magV_build (a b c d e f g h : Nat) (ha : a < 18446744073709551616) (hb : b < 18446744073709551616) (hc : c < 18446744073709551616) (hd : d < 18446744073709551616) (he : e < 18446744073709551616) (hf : f < 18446744073709551616) (hg : g < 18446744073709551616) (hh : h < 18446744073709551616) :
    magV (build [a, b, c, d, e, f, g, h]) = .agg #[.int .u64 a, .int .u64 b, .int .u64 c, .int .u64 d, .int .u64 e, .int .u64 f, .int .u64 g, .int .u64 h] := by
  simp only [magV, build, dig_cons _ _ _ ha, dig_cons _ _ _ hb, dig_cons _ _ _ hc, dig_cons _ _ _ hd, dig_cons _ _ _ he, dig_cons _ _ _ hf, dig_cons _ _ _ hg, dig_cons0 _ _ ha, dig_cons0 _ _ hb, dig_cons0 _ _ hc, dig_cons0 _ _ hd, dig_cons0 _ _ he, dig_cons0 _ _ hf, dig_cons0 _ _ hg, dig_cons0 _ _ hh]
theorem mag_wide (n : Nat) : ∃ x, fit x ∧ W x = magV n := by
  have hp := p512_nat
  have hl := Nat.mod_lt n pow512
  rw [← magV_mod n]
  generalize n % 13407807929942597099574024998205846127479365820592393377723561443721764030073546976801874298166903427690031858186486050853753882811946569946433649006084096 = k at *
  by_cases h : (k : Int) < P511
  · refine ⟨k, by unfold fit P511 at *; omega, ?_⟩
    have hf : fit k := by unfold fit P511 at *; omega
    have := un_pos hf (by omega)
    unfold W; rw [show un (k : Int) = k by omega]
  · refine ⟨k - P512, by unfold fit P511 P512 at *; omega, ?_⟩
    have hf : fit (k - P512) := by unfold fit P511 P512 at *; omega
    have := un_neg hf (by unfold P512 at *; omega)
    unfold W; rw [show un ((k : Int) - P512) = k by omega]
/-- Whatever eight words are handed in, the law answers true. -/
theorem words_wide (a b c d e f g h : Nat) (ha : a < 18446744073709551616) (hb : b < 18446744073709551616) (hc : c < 18446744073709551616) (hd : d < 18446744073709551616) (he : e < 18446744073709551616) (hf : f < 18446744073709551616) (hg : g < 18446744073709551616) (hh : h < 18446744073709551616) :
    ∃ x, fit x ∧ W x = .agg #[.int .u64 a, .int .u64 b, .int .u64 c, .int .u64 d, .int .u64 e, .int .u64 f, .int .u64 g, .int .u64 h] := by
  obtain ⟨x, h1, h2⟩ := mag_wide (build [a, b, c, d, e, f, g, h])
  exact ⟨x, h1, by rw [h2, magV_build a b c d e f g h ha hb hc hd he hf hg hh]⟩
end Go.Proofs.YtaafimabgcnbaabGreatDoor
namespace Go.Proofs.YtaafimabgcnbaabGreatDoor
open Go Go.Rx
open Go.ChangeShapes Go.WideShapes Go.ChangeAt Go.RowKit

theorem own : ownKnob Tryz.prog.godebug = none := by kernel_rfl
theorem laidOut : laidOutB Tryz.prog = true := by kernel_rfl

theorem word_cell {P : Program} {w : World} {r : Reach} {base : Nat} {u : TypeId} {v : Value} (hu : P.underlying u = some (.int .u64)) (h : Cell.okWide P w r base u v) : ∃ n : Nat, n < 18446744073709551616 ∧ v = .int .u64 n := by
  simp only [Cell.okWide, hu] at h
  cases v <;> simp_all [Cell.ok]
  rename_i k n
  obtain ⟨rfl, h1, h2⟩ := h
  have e1 : IntKind.u64.min = 0 := by decide
  have e2 : IntKind.u64.max = 18446744073709551615 := by decide
  rw [e1] at h1; rw [e2] at h2
  exact ⟨n.toNat, by omega, by omega⟩
theorem list8 {α : Type} (l : List α) (h : l.length = 8) : ∃ a b c d e f g i, l = [a, b, c, d, e, f, g, i] := by
  match l, h with
  | [a, b, c, d, e, f, g, i], _ => exact ⟨a, b, c, d, e, f, g, i, rfl⟩
theorem arg_words {P : Program} {w : World} {r : Reach} {base : Nat} {t u : TypeId} {cs : Array Value} (hct : P.cellTypes P.depth t = some [u, u, u, u, u, u, u, u]) (hu : P.underlying u = some (.int .u64)) (hn : cs.size = 8) (h : Row.okWide P w r base t cs) :
    ∃ x, fit x ∧ Value.agg cs = W x := by
  obtain ⟨ts, h1, _, h2⟩ := h
  rw [hct] at h1
  cases h1
  have key : ∀ (i : Nat) (v : Value), cs[i]? = some v → ∃ n : Nat, n < 18446744073709551616 ∧ v = .int .u64 n := fun i v hv => by
    obtain ⟨u', k1, k2⟩ := h2 i v hv
    have hm : u' ∈ [u, u, u, u, u, u, u, u] := List.mem_of_getElem? k1
    have : u' = u := by simpa using hm
    subst this
    exact word_cell hu k2
  obtain ⟨l⟩ := cs
  obtain ⟨a, b, c, d, e, f, g, i, rfl⟩ := list8 l (by simpa using hn)
  obtain ⟨na, ha, rfl⟩ := key 0 a rfl
  obtain ⟨nb, hb, rfl⟩ := key 1 b rfl
  obtain ⟨nc, hc, rfl⟩ := key 2 c rfl
  obtain ⟨nd, hd, rfl⟩ := key 3 d rfl
  obtain ⟨ne, he, rfl⟩ := key 4 e rfl
  obtain ⟨nf, hf, rfl⟩ := key 5 f rfl
  obtain ⟨ng, hg, rfl⟩ := key 6 g rfl
  obtain ⟨ni, hi, rfl⟩ := key 7 i rfl
  obtain ⟨x, hx, he⟩ := words_wide na nb nc nd ne nf ng ni ha hb hc hd he hf hg hi
  exact ⟨x, hx, he.symm⟩
theorem cells24 : Tryz.prog.cellsOf 24 = 8 := by kernel_rfl
theorem types24 : Tryz.prog.cellTypes Tryz.prog.depth 24 = some [22, 22, 22, 22, 22, 22, 22, 22] := by kernel_rfl
set_option maxRecDepth 100000 in
theorem wide_arg {U : World} {base : Nat} {v : Value} (h : Value.okWide Tryz.prog U .any base 24 v) : ∃ x, fit x ∧ v = W x := by
  obtain ⟨cs, rfl, hn, hr⟩ : ∃ cs, v = .agg cs ∧ cs.size = Tryz.prog.cellsOf 24 ∧ Row.okWide Tryz.prog U .any base 24 cs := by
    simp only [Value.okWide, Tryz.underlying24] at h
    exact h
  rw [cells24] at hn
  exact arg_words types24 Tryz.underlying22 hn hr

end Go.Proofs.YtaafimabgcnbaabGreatDoor
