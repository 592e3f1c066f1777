/-
  Contracts of package wide, for every value: Div by two.
-/
import Derived.Test.YteaglhkacfcgfaaRxAA
namespace Go.Proofs.Yteaglhkacfcgfaa
open Go Go.Rx Go.RowKit

theorem val_mag (σ : Nat → Int) (n : Nat) : val1 σ (mag n) = magV n := rfl
theorem two_way {r : Nat} (h : r < 2) : r = 0 ∨ r = 1 := by omega
theorem divide_run (r : Nat) (h : r < 2) (σ : Nat → Int) : runs σ [⟨93, [inN 0, u1 2], .tup [inN 1, u1 r]⟩] [] ⟨85, [inN 0, mag 2], .tup [inN 1, mag r]⟩ 200 = true := by
  rcases two_way h with rfl | rfl <;> kernel_rfl
/-- (magnitude).divide by two. -/
theorem f_divide (m : Nat) (hm : m < 13407807929942597099574024998205846127479365820592393377723561443721764030073546976801874298166903427690031858186486050853753882811946569946433649006084096) : Gives Try.prog 85 [magV m, magV 2] (.tuple #[magV (m / 2), magV (m % 2)]) := by
  have r1 : RowGives Try.prog (sigN (lst [m, m / 2])) ⟨93, [inN 0, u1 2], .tup [inN 1, u1 (m % 2 : Nat)]⟩ := by
    refine ⟨rfl, ?_⟩
    simp only [List.map_cons, List.map_nil, val_inN, valV_tup2, val_u1]
    exact f_half m hm
  have := run_gives _ _ [] (one_row r1) no_test _ 200 (divide_run (m % 2) (Nat.mod_lt _ (by decide)))
  simp only [List.map_cons, List.map_nil, val_inN, valV_tup2, val_mag] at this
  exact this

def sg2 : V1 := .agg [word 2 0, word 2 1, word 2 2, word 2 3, word 2 4, word 2 5, word 2 6, word 2 7, .v (.bool false)]
theorem val_sg2 (σ : Nat → Int) : val1 σ sg2 = sgV 2 false := by kernel_rfl
theorem over_run (σ : Nat → Int) (b : Bool) (r : Nat) (h : r < 2) (hb : b = false ∨ r = 0) : runs σ [⟨85, [inN 0, mag 2], .tup [inN 1, mag r]⟩] [] ⟨60, [sgN 0 b, sg2], .tup [sgN 1 b, mag r]⟩ 200 = true := by
  rcases two_way h with rfl | rfl <;> cases b <;> simp at hb <;> kernel_rfl
theorem over_runN (σ : Nat → Int) : runs σ [⟨85, [inN 0, mag 2], .tup [inN 1, mag 1]⟩, ⟨86, [inN 1, mag 1], .tup [inN 2, b1 true]⟩] [] ⟨60, [sgN 0 true, sg2], .tup [sgN 2 true, mag 1]⟩ 200 = true := by kernel_rfl
/-- The size of the quotient by two. -/
def halfS (m : Nat) (b : Bool) : Nat := if b = true ∧ m % 2 = 1 then m / 2 + 1 else m / 2
/-- (signed).over two. -/
theorem f_over (m : Nat) (b : Bool) (hm : m < 13407807929942597099574024998205846127479365820592393377723561443721764030073546976801874298166903427690031858186486050853753882811946569946433649006084096) : Gives Try.prog 60 [sgV m b, sgV 2 false] (.tuple #[sgV (halfS m b) b, magV (m % 2)]) := by
  have r1 : ∀ l r, m % 2 = r → RowGives Try.prog (sigN (lst (m :: m / 2 :: l))) ⟨85, [inN 0, mag 2], .tup [inN 1, mag r]⟩ := fun l r h => by
    refine ⟨rfl, ?_⟩
    simp only [List.map_cons, List.map_nil, val_inN, valV_tup2, val_mag]
    rw [← h]
    exact f_divide m hm
  by_cases hc : b = true ∧ m % 2 = 1
  · obtain ⟨rfl, hm2⟩ := hc
    have r2 : RowGives Try.prog (sigN (lst [m, m / 2, m / 2 + 1])) ⟨86, [inN 1, mag 1], .tup [inN 2, b1 true]⟩ := by
      refine ⟨rfl, ?_⟩
      simp only [List.map_cons, List.map_nil, val_inN, valV_tup2, val_mag, val_b1]
      have h1 : m / 2 + 1 < 13407807929942597099574024998205846127479365820592393377723561443721764030073546976801874298166903427690031858186486050853753882811946569946433649006084096 := by omega
      have := f_sum (m / 2) 1 (by omega) (by decide)
      rw [decide_eq_true h1] at this
      exact this
    have := run_gives _ _ [] (more_row (r1 _ _ hm2) (one_row r2)) no_test _ 200 over_runN
    simp only [List.map_cons, List.map_nil, valV_tup2, val_mag, val_sgN, val_sg2] at this
    unfold halfS
    rw [if_pos ⟨rfl, hm2⟩, hm2]
    exact this
  · have hb : b = false ∨ m % 2 = 0 := by
      cases b with
      | false => exact .inl rfl
      | true => right; have : ¬ m % 2 = 1 := fun h => hc ⟨rfl, h⟩
                omega
    have := run_gives (sigN (lst [m, m / 2])) _ [] (one_row (r1 [] _ rfl)) no_test _ 200 (fun σ => over_run σ b _ (Nat.mod_lt _ (by decide)) hb)
    simp only [List.map_cons, List.map_nil, valV_tup2, val_mag, val_sgN, val_sg2] at this
    unfold halfS
    rw [if_neg hc]
    exact this
theorem div2_run (σ : Nat → Int) (b : Bool) (r : Nat) (h : r < 2) : runs σ [⟨50, [inN 0], .s (sgN 1 b)⟩, ⟨60, [sgN 1 b, sg2], .tup [sgN 2 b, mag r]⟩, ⟨49, [sgN 2 b, b1 true], .tup [inN 3, i1 0]⟩] [] ⟨27, [inN 0, mag 2], .tup [inN 3, mag r, i1 0]⟩ 200 = true := by
  rcases two_way h with rfl | rfl <;> cases b <;> kernel_rfl
theorem sg_half (x : Int) : sg (halfS x.natAbs (decide (x < 0))) (decide (x < 0)) = x / 2 := by
  unfold sg halfS
  by_cases h : x < 0
  · simp only [h, decide_true, if_true, true_and]
    split <;> omega
  · simp only [h, decide_false, Bool.false_eq_true, if_false, false_and]
    omega
/-- Div by two. -/
theorem f_Div2 (x : Int) (hx : fit x) : Gives Try.prog 27 [W x, W 2] (.tuple #[W (x / 2), W (x % 2), .int .i64 0]) := by
  have hl := abs_lt hx
  have hf : fit (x / 2) := by unfold fit P511 at *; omega
  have hs : halfS x.natAbs (decide (x < 0)) < 13407807929942597099574024998205846127479365820592393377723561443721764030073546976801874298166903427690031858186486050853753882811946569946433649006084096 := by unfold halfS; split <;> omega
  have hr : x.natAbs % 2 = un (x % 2) := by unfold un P512; omega
  have k1 : RowGives Try.prog (sigN (lst [un x, x.natAbs, halfS x.natAbs (decide (x < 0)), un (x / 2)])) ⟨50, [inN 0], .s (sgN 1 (decide (x < 0)))⟩ := by
    refine ⟨rfl, ?_⟩
    simp only [List.map_cons, List.map_nil, val_inN, valV_s, val_sgN]
    exact f_signedOf x hx
  have k2 : RowGives Try.prog (sigN (lst [un x, x.natAbs, halfS x.natAbs (decide (x < 0)), un (x / 2)])) ⟨60, [sgN 1 (decide (x < 0)), sg2], .tup [sgN 2 (decide (x < 0)), mag (x.natAbs % 2)]⟩ := by
    refine ⟨rfl, ?_⟩
    simp only [List.map_cons, List.map_nil, val_sgN, val_sg2, valV_tup2, val_mag]
    exact f_over _ _ hl
  have k3 : RowGives Try.prog (sigN (lst [un x, x.natAbs, halfS x.natAbs (decide (x < 0)), un (x / 2)])) ⟨49, [sgN 2 (decide (x < 0)), b1 true], .tup [inN 3, i1 0]⟩ := by
    refine ⟨rfl, ?_⟩
    simp only [List.map_cons, List.map_nil, val_sgN, val_b1, valV_tup2, val_inN, val_i1]
    have := f_wideOf _ (decide (x < 0)) true hs
    rw [sg_half, if_pos ⟨rfl, hf⟩] at this
    exact this
  have := run_gives _ _ [] (more_row k1 (more_row k2 (one_row k3))) no_test _ 200 (fun σ => div2_run σ _ (x.natAbs % 2) (Nat.mod_lt _ (by decide)))
  simp only [List.map_cons, List.map_nil, val_inN, val_mag, valV, val_i1] at this
  rw [hr] at this
  exact this
end Go.Proofs.Yteaglhkacfcgfaa
