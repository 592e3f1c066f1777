/-
  Contracts of package wide, for every value: Mul by two.
-/
import Derived.Test.YteaglhkacfcgfaaRxDD
namespace Go.Proofs.Yteaglhkacfcgfaa
open Go Go.Rx Go.RowKit

theorem times_run (σ : Nat → Int) (b f : Bool) : runs σ [⟨101, [inN 0, mag 2], .tup [inN 1, b1 f]⟩] [] ⟨80, [sgN 0 b, sg2], .tup [sgN 1 b, b1 f]⟩ 200 = true := by
  cases b <;> cases f <;> kernel_rfl
/-- (signed).times two. -/
theorem f_times (m : Nat) (b : Bool) (hm : m < 13407807929942597099574024998205846127479365820592393377723561443721764030073546976801874298166903427690031858186486050853753882811946569946433649006084096) : Gives Try.prog 80 [sgV m b, sgV 2 false] (Sgd.V ⟨m * 2 % 13407807929942597099574024998205846127479365820592393377723561443721764030073546976801874298166903427690031858186486050853753882811946569946433649006084096, b, decide (m * 2 < 13407807929942597099574024998205846127479365820592393377723561443721764030073546976801874298166903427690031858186486050853753882811946569946433649006084096)⟩) := by
  have r1 : RowGives Try.prog (sigN (lst [m, m * 2])) ⟨101, [inN 0, mag 2], .tup [inN 1, b1 (decide (m * 2 < 13407807929942597099574024998205846127479365820592393377723561443721764030073546976801874298166903427690031858186486050853753882811946569946433649006084096))]⟩ := by
    refine ⟨rfl, ?_⟩
    simp only [List.map_cons, List.map_nil, val_inN, valV_tup2, val_mag, val_b1]
    exact f_prod m hm
  have := run_gives _ _ [] (one_row r1) no_test _ 200 (fun σ => times_run σ b _)
  simp only [List.map_cons, List.map_nil, valV_tup2, val_sgN, val_sg2, val_b1] at this
  unfold Sgd.V
  simp only
  rw [sgV_mod]
  exact this
theorem fit_two : fit 2 := by unfold fit P511; omega
theorem twice_ok (x : Int) : (x.natAbs * 2 < 13407807929942597099574024998205846127479365820592393377723561443721764030073546976801874298166903427690031858186486050853753882811946569946433649006084096 → sg (x.natAbs * 2) (decide (x < 0)) = x * 2) ∧ (¬ x.natAbs * 2 < 13407807929942597099574024998205846127479365820592393377723561443721764030073546976801874298166903427690031858186486050853753882811946569946433649006084096 → ¬ fit (x * 2)) := by
  have hp := p512_nat
  refine ⟨fun h => ?_, fun h => ?_⟩
  · unfold sg
    by_cases h0 : x < 0
    · rw [decide_eq_true h0, if_pos rfl]; omega
    · rw [decide_eq_false h0, if_neg (by decide)]; omega
  · unfold fit P511 P512 at *; omega
/-- Mul by two. -/
theorem f_Mul2 (x : Int) (hx : fit x) : Gives Try.prog 26 [W x, W 2] (resV (x * 2) (fit (x * 2))) := by
  obtain ⟨h1, h2⟩ := twice_ok x
  have ht := f_times x.natAbs (decide (x < 0)) (abs_lt hx)
  have := f_op 42 80 26 (.inr (.inr ⟨rfl, rfl, rfl⟩)) x 2 hx fit_two ⟨x.natAbs * 2 % 13407807929942597099574024998205846127479365820592393377723561443721764030073546976801874298166903427690031858186486050853753882811946569946433649006084096, decide (x < 0), decide (x.natAbs * 2 < 13407807929942597099574024998205846127479365820592393377723561443721764030073546976801874298166903427690031858186486050853753882811946569946433649006084096)⟩ (Nat.mod_lt _ pow512) ht
  rwa [resV_sum (z := x * 2) (fun h => by
    have h' := of_decide_eq_true h
    simp only
    rw [Nat.mod_eq_of_lt h']
    exact h1 h') (fun h => h2 (of_decide_eq_false h))] at this
end Go.Proofs.Yteaglhkacfcgfaa
