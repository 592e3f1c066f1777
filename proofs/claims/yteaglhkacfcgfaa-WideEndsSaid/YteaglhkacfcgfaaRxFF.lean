/-
  The law WideEnds as a run: its calls' answers are known.
-/
import Derived.Test.YteaglhkacfcgfaaRxEE
namespace Go.Proofs.Yteaglhkacfcgfaa
open Go Go.Rx Go.RowKit

def aboveV : V1 := mag (3351951982485649274893506249551461531869841455148098344430890360930441007518386744200468574541725856922507964546621512713438470702986642486608412251521024)
def belowV : V1 := mag (13407807929942597099574024998205846127479365820592393377723561443721764030073546976801874298166903427690031858186486050853753882811946569946433649006084096 - 3351951982485649274893506249551461531869841455148098344430890360930441007518386744200468574541725856922507964546621512713438470702986642486608412251521024)
theorem two_run (σ : Nat → Int) : runs σ [] [] ⟨30, [int 510], .s aboveV⟩ 400 = true := by kernel_rfl
theorem two_runN (σ : Nat → Int) : runs σ [] [] ⟨30, [int (-510)], .s belowV⟩ 400 = true := by kernel_rfl
/-- The rows before the sum: halves, their sum, with the carry. -/
def endRows (j l : Nat) : List Row :=
  [⟨9, [], .s (b1 true)⟩, ⟨10, [int 2], .s (mag 2)⟩, ⟨30, [int 510], .s aboveV⟩, ⟨30, [int (-510)], .s belowV⟩,
   ⟨24, [mag j, mag l], .tup [mag (j + l), i1 0]⟩, ⟨27, [mag (j + l), mag 2], .tup [mag ((j + l) / 2), mag ((j + l) % 2), i1 0]⟩, ⟨27, [inN 0, mag 2], .tup [inN 2, mag j, i1 0]⟩, ⟨27, [inN 1, mag 2], .tup [inN 3, mag l, i1 0]⟩,
   ⟨24, [inN 2, inN 3], .tup [inN 4, i1 0]⟩, ⟨24, [inN 4, mag ((j + l) / 2)], .tup [inN 5, i1 0]⟩]
theorem of_run (σ : Nat → Int) : runs σ [] [] ⟨10, [int 2], .s (mag 2)⟩ 400 = true := by kernel_rfl
theorem ends_low (σ : Nat → Int) (j l : Nat) (hj : j < 2) (hl : l < 2) : runs σ (endRows j l ++ [⟨17, [inN 5, belowV], .s (i1 (-1))⟩, ⟨24, [inN 0, inN 1], .tup [mag 0, i1 6]⟩]) [] ⟨6, [inN 0, inN 1], .s (b1 true)⟩ 1000 = true := by
  rcases two_way hj with rfl | rfl <;> rcases two_way hl with rfl | rfl <;> kernel_rfl
theorem ends_high (σ : Nat → Int) (j l : Nat) (hj : j < 2) (hl : l < 2) (r q : Int) (hr : r = 0 ∨ r = 1) (hq : q = 0 ∨ q = 1) : runs σ (endRows j l ++ [⟨17, [inN 5, belowV], .s (i1 r)⟩, ⟨17, [inN 5, aboveV], .s (i1 q)⟩, ⟨24, [inN 0, inN 1], .tup [mag 0, i1 6]⟩]) [] ⟨6, [inN 0, inN 1], .s (b1 true)⟩ 1000 = true := by
  rcases two_way hj with rfl | rfl <;> rcases two_way hl with rfl | rfl <;> rcases hr with rfl | rfl <;> rcases hq with rfl | rfl <;> kernel_rfl
def sameTests : List Test := (List.range 8).map fun i => ⟨.eql, .inp .u64 (8 * 6 + i), .inp .u64 (8 * 6 + i), true⟩
theorem ends_fit (σ : Nat → Int) (j l : Nat) (hj : j < 2) (hl : l < 2) (r : Int) (hr : r = 0 ∨ r = 1) : runs σ (endRows j l ++ [⟨17, [inN 5, belowV], .s (i1 r)⟩, ⟨17, [inN 5, aboveV], .s (i1 (-1))⟩, ⟨24, [inN 0, inN 1], .tup [inN 6, i1 0]⟩, ⟨26, [inN 5, mag 2], .tup [inN 7, i1 0]⟩, ⟨24, [inN 7, mag ((j + l) % 2)], .tup [inN 6, i1 0]⟩]) sameTests ⟨6, [inN 0, inN 1], .s (b1 true)⟩ 1000 = true := by
  rcases two_way hj with rfl | rfl <;> rcases two_way hl with rfl | rfl <;> rcases hr with rfl | rfl <;> kernel_rfl
end Go.Proofs.Yteaglhkacfcgfaa
