/-
  The law WideEnds as a run: its calls' answers are known.
  The law WideEnds answers true, for every two wide integers.
-/
import Derived.Test.YtaafimabgcnbaaaGreatDoorMH
import Derived.Test.YtaafimabgcnbaaaGreatDoorMF
set_option linter.all false
namespace Go.Proofs.YtaafimabgcnbaaaGreatDoor
open Go Go.Rx Go.RowKit

def aboveV : V1 := mag (3351951982485649274893506249551461531869841455148098344430890360930441007518386744200468574541725856922507964546621512713438470702986642486608412251521024)
def belowV : V1 := mag (13407807929942597099574024998205846127479365820592393377723561443721764030073546976801874298166903427690031858186486050853753882811946569946433649006084096 - 3351951982485649274893506249551461531869841455148098344430890360930441007518386744200468574541725856922507964546621512713438470702986642486608412251521024)
theorem two_run (σ : Nat → Int) : runs σ [] [] ⟨14, [int 510], .s aboveV⟩ 400 = true := by kernel_rfl
theorem two_runN (σ : Nat → Int) : runs σ [] [] ⟨14, [int (-510)], .s belowV⟩ 400 = true := by kernel_rfl
/-- The rows before the sum: halves, their sum, with the carry. -/
def endRows (j l : Nat) : List Row :=
  [⟨4, [], .s (b1 true)⟩, ⟨10, [int 2], .s (mag 2)⟩, ⟨14, [int 510], .s aboveV⟩, ⟨14, [int (-510)], .s belowV⟩,
   ⟨16, [mag j, mag l], .tup [mag (j + l), i1 0]⟩, ⟨22, [mag (j + l), mag 2], .tup [mag ((j + l) / 2), mag ((j + l) % 2), i1 0]⟩, ⟨22, [inN 0, mag 2], .tup [inN 2, mag j, i1 0]⟩, ⟨22, [inN 1, mag 2], .tup [inN 3, mag l, i1 0]⟩,
   ⟨16, [inN 2, inN 3], .tup [inN 4, i1 0]⟩, ⟨16, [inN 4, mag ((j + l) / 2)], .tup [inN 5, i1 0]⟩]
theorem of_run (σ : Nat → Int) : runs σ [] [] ⟨10, [int 2], .s (mag 2)⟩ 400 = true := by kernel_rfl
def sameTests : List Test := (List.range 8).map fun i => ⟨.eql, .inp .u64 (8 * 6 + i), .inp .u64 (8 * 6 + i), true⟩
end Go.Proofs.YtaafimabgcnbaaaGreatDoor
namespace Go.Proofs.YtaafimabgcnbaaaGreatDoor
open Go Go.Rx Go.RowKit

theorem g_works : Gives Tryz.prog 4 [] (.bool true) := fun w => by
  obtain ⟨h1, h2⟩ := k_works (noLoc (lets0 fun _ => 0)) [] w .nil
  refine ⟨h1, h2.mono fun e w' he => ?_⟩
  obtain ⟨x, rfl, hx, hb⟩ := he
  have := okV_inv (c := .s (.one (.v (.bool true)))) rfl hx
  exact ⟨by rw [this]; rfl, hb⟩
def P510 : Int := 3351951982485649274893506249551461531869841455148098344430890360930441007518386744200468574541725856922507964546621512713438470702986642486608412251521024
theorem val_aboveV (σ : Nat → Int) : val1 σ aboveV = magV 3351951982485649274893506249551461531869841455148098344430890360930441007518386744200468574541725856922507964546621512713438470702986642486608412251521024 := by kernel_rfl
theorem val_belowV (σ : Nat → Int) : val1 σ belowV = magV (13407807929942597099574024998205846127479365820592393377723561443721764030073546976801874298166903427690031858186486050853753882811946569946433649006084096 - 3351951982485649274893506249551461531869841455148098344430890360930441007518386744200468574541725856922507964546621512713438470702986642486608412251521024) := by kernel_rfl
theorem W_above : W P510 = magV (3351951982485649274893506249551461531869841455148098344430890360930441007518386744200468574541725856922507964546621512713438470702986642486608412251521024) := by unfold W; rw [show un P510 = 3351951982485649274893506249551461531869841455148098344430890360930441007518386744200468574541725856922507964546621512713438470702986642486608412251521024 by decide]
theorem W_below : W (-P510) = magV (13407807929942597099574024998205846127479365820592393377723561443721764030073546976801874298166903427690031858186486050853753882811946569946433649006084096 - 3351951982485649274893506249551461531869841455148098344430890360930441007518386744200468574541725856922507964546621512713438470702986642486608412251521024) := by unfold W; rw [show un (-P510) = 13407807929942597099574024998205846127479365820592393377723561443721764030073546976801874298166903427690031858186486050853753882811946569946433649006084096 - 3351951982485649274893506249551461531869841455148098344430890360930441007518386744200468574541725856922507964546621512713438470702986642486608412251521024 by decide]
theorem fit510 : fit P510 ∧ fit (-P510) := by unfold fit P510 P511; omega
theorem W_small (n : Nat) (h : n < 4) : W (n : Int) = magV n := by
  unfold W; rw [show un (n : Int) = n by unfold un P512; omega]
theorem fit_small (n : Nat) (h : n < 4) : fit (n : Int) := by unfold fit P511; omega
def bit (x : Int) : Nat := (x % 2).toNat
theorem bit_lt (x : Int) : bit x < 2 := by unfold bit; omega
theorem bit_eq (x : Int) : (bit x : Int) = x % 2 := by unfold bit; omega
def hlf (x y : Int) : Int := x / 2 + y / 2 + ((bit x + bit y) / 2 : Nat)
theorem hlf_eq (x y : Int) : x + y = hlf x y * 2 + ((bit x + bit y) % 2 : Nat) := by unfold hlf bit; omega
def eList (x y : Int) : List Nat := [un x, un y, un (x / 2), un (y / 2), un (x / 2 + y / 2), un (hlf x y), un (x + y), un (hlf x y * 2)]
theorem end_fits {x y : Int} (hx : fit x) (hy : fit y) : fit (x / 2) ∧ fit (y / 2) ∧ fit (x / 2 + y / 2) ∧ fit (hlf x y) := by
  unfold fit P511 hlf bit at *; omega
theorem app_rows {P : Program} {σ : Nat → Int} {a b : List Row} (ha : ∀ q ∈ a, RowGives P σ q) (hb : ∀ q ∈ b, RowGives P σ q) : ∀ q ∈ a ++ b, RowGives P σ q := fun q hq => by
  rcases List.mem_append.1 hq with h | h
  · exact ha q h
  · exact hb q h
theorem same_ok (σ : Nat → Int) : ∀ t ∈ sameTests, TestOk σ t := by
  intro t ht k
  simp only [sameTests, List.mem_map, List.mem_range] at ht
  obtain ⟨i, _, rfl⟩ := ht
  simp only [intBin, beq_self_eq_true]
end Go.Proofs.YtaafimabgcnbaaaGreatDoor
