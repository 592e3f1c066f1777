/-
  The law WideEnds as a run: its calls' answers are known.
  The law WideEnds answers true, for every two wide integers.
-/
import Derived.Test.YtaafimabgcnbaabGreatDoorMH
import Derived.Test.YtaafimabgcnbaabGreatDoorMF
set_option linter.all false
namespace Go.Proofs.YtaafimabgcnbaabGreatDoor
open Go Go.Rx Go.RowKit

def aboveV : V1 := mag (3351951982485649274893506249551461531869841455148098344430890360930441007518386744200468574541725856922507964546621512713438470702986642486608412251521024)
def belowV : V1 := mag (13407807929942597099574024998205846127479365820592393377723561443721764030073546976801874298166903427690031858186486050853753882811946569946433649006084096 - 3351951982485649274893506249551461531869841455148098344430890360930441007518386744200468574541725856922507964546621512713438470702986642486608412251521024)
theorem two_run (σ : Nat → Int) : runs σ [] [] ⟨16, [int 510], .s aboveV⟩ 400 = true := by kernel_rfl
theorem two_runN (σ : Nat → Int) : runs σ [] [] ⟨16, [int (-510)], .s belowV⟩ 400 = true := by kernel_rfl
/-- The rows before the sum: halves, their sum, with the carry. -/
def endRows (j l : Nat) : List Row :=
  [⟨4, [], .s (b1 true)⟩, ⟨12, [int 2], .s (mag 2)⟩, ⟨16, [int 510], .s aboveV⟩, ⟨16, [int (-510)], .s belowV⟩,
   ⟨18, [mag j, mag l], .tup [mag (j + l), i1 0]⟩, ⟨23, [mag (j + l), mag 2], .tup [mag ((j + l) / 2), mag ((j + l) % 2), i1 0]⟩, ⟨23, [inN 0, mag 2], .tup [inN 2, mag j, i1 0]⟩, ⟨23, [inN 1, mag 2], .tup [inN 3, mag l, i1 0]⟩,
   ⟨18, [inN 2, inN 3], .tup [inN 4, i1 0]⟩, ⟨18, [inN 4, mag ((j + l) / 2)], .tup [inN 5, i1 0]⟩]
theorem of_run (σ : Nat → Int) : runs σ [] [] ⟨12, [int 2], .s (mag 2)⟩ 400 = true := by kernel_rfl
def sameTests : List Test := (List.range 8).map fun i => ⟨.eql, .inp .u64 (8 * 6 + i), .inp .u64 (8 * 6 + i), true⟩
end Go.Proofs.YtaafimabgcnbaabGreatDoor
namespace Go.Proofs.YtaafimabgcnbaabGreatDoor
open Go Go.Rx Go.RowKit

theorem g_works : Gives Tryz.prog 4 [] (.bool true) := fun w => by
  obtain ⟨h1, h2⟩ := k_works (noLoc (lets0 fun _ => 0)) [] w .nil
  refine ⟨h1, h2.mono fun e w' he => ?_⟩
  obtain ⟨x, rfl, hx, hb⟩ := he
  have := okV_inv (c := .s (.one (.v (.bool true)))) rfl hx
  exact ⟨by rw [this]; rfl, hb⟩
def P510 : Int := 3351951982485649274893506249551461531869841455148098344430890360930441007518386744200468574541725856922507964546621512713438470702986642486608412251521024
theorem val_aboveV (σ : Nat → Int) : val1 σ aboveV = magV 3351951982485649274893506249551461531869841455148098344430890360930441007518386744200468574541725856922507964546621512713438470702986642486608412251521024 := by kernel_rfl
theorem val_belowV (σ : Nat → Int) : val1 σ belowV = magV (13407807929942597099574024998205846127479365820592393377723561443721764030073546976801874298166903427690031858186486050853753882811946569946433649006084096 - 3351951982485649274893506249551461531869841455148098344430890360930441007518386744200468574541725856922507964546621512713438470702986642486608412251521024) := by kernel_rfl
theorem W_above : W P510 = magV (3351951982485649274893506249551461531869841455148098344430890360930441007518386744200468574541725856922507964546621512713438470702986642486608412251521024) := by unfold W; rw [show un P510 = 3351951982485649274893506249551461531869841455148098344430890360930441007518386744200468574541725856922507964546621512713438470702986642486608412251521024 by decide]
theorem W_below : W (-P510) = magV (13407807929942597099574024998205846127479365820592393377723561443721764030073546976801874298166903427690031858186486050853753882811946569946433649006084096 - 3351951982485649274893506249551461531869841455148098344430890360930441007518386744200468574541725856922507964546621512713438470702986642486608412251521024) := by unfold W; rw [show un (-P510) = 13407807929942597099574024998205846127479365820592393377723561443721764030073546976801874298166903427690031858186486050853753882811946569946433649006084096 - 3351951982485649274893506249551461531869841455148098344430890360930441007518386744200468574541725856922507964546621512713438470702986642486608412251521024 by decide]
theorem fit510 : fit P510 ∧ fit (-P510) := by unfold fit P510 P511; omega
theorem W_small (n : Nat) (h : n < 4) : W (n : Int) = magV n := by
  unfold W; rw [show un (n : Int) = n by unfold un P512; omega]
theorem fit_small (n : Nat) (h : n < 4) : fit (n : Int) := by unfold fit P511; omega
def bit (x : Int) : Nat := (x % 2).toNat
theorem bit_lt (x : Int) : bit x < 2 := by unfold bit; omega
theorem bit_eq (x : Int) : (bit x : Int) = x % 2 := by unfold bit; omega
def hlf (x y : Int) : Int := x / 2 + y / 2 + ((bit x + bit y) / 2 : Nat)
theorem hlf_eq (x y : Int) : x + y = hlf x y * 2 + ((bit x + bit y) % 2 : Nat) := by unfold hlf bit; omega
def eList (x y : Int) : List Nat := [un x, un y, un (x / 2), un (y / 2), un (x / 2 + y / 2), un (hlf x y), un (x + y), un (hlf x y * 2)]
theorem end_fits {x y : Int} (hx : fit x) (hy : fit y) : fit (x / 2) ∧ fit (y / 2) ∧ fit (x / 2 + y / 2) ∧ fit (hlf x y) := by
  unfold fit P511 hlf bit at *; omega
theorem tri_add {x y z : Int} (hx : fit x) (hy : fit y) (hz : fit (x + y)) (e : x + y = z) : Gives Tryz.prog 18 [W x, W y] (outV z) := by
  have := f_Add x y hx hy
  unfold resV at this
  rwa [if_pos hz, e] at this
theorem rows_ok {x y : Int} (hx : fit x) (hy : fit y) : ∀ r ∈ endRows (bit x) (bit y), RowGives Tryz.prog (sigN (lst (eList x y))) r := by
  obtain ⟨f1, f2, f3, f4⟩ := end_fits hx hy
  have bx := bit_lt x
  have by' := bit_lt y
  refine more_row ⟨rfl, g_works⟩ (more_row ⟨rfl, ?_⟩ (more_row ⟨rfl, ?_⟩ (more_row ⟨rfl, ?_⟩ (more_row ⟨rfl, ?_⟩ (more_row ⟨rfl, ?_⟩ (more_row ⟨rfl, ?_⟩ (more_row ⟨rfl, ?_⟩ (more_row ⟨rfl, ?_⟩ (one_row ⟨rfl, ?_⟩)))))))))
  · exact run_gives _ [] [] no_row no_test _ 400 of_run
  · exact run_gives _ [] [] no_row no_test _ 400 two_run
  · exact run_gives _ [] [] no_row no_test _ 400 two_runN
  · simp only [List.map_cons, List.map_nil, valV_tup2, val_mag, val_i1]
    rw [← W_small _ (show bit x < 4 by omega), ← W_small _ (show bit y < 4 by omega), ← W_small _ (show bit x + bit y < 4 by omega)]
    refine tri_add (fit_small _ (by omega)) (fit_small _ (by omega)) ?_ (by push_cast; rfl)
    rw [← Int.natCast_add]
    exact fit_small _ (by omega)
  · have := f_Div2 ((bit x + bit y : Nat) : Int) (fit_small _ (by omega))
    rw [show ((bit x + bit y : Nat) : Int) / 2 = (((bit x + bit y) / 2 : Nat) : Int) by omega, show ((bit x + bit y : Nat) : Int) % 2 = (((bit x + bit y) % 2 : Nat) : Int) by omega, W_small _ (by omega), W_small _ (by omega), W_small _ (by omega)] at this
    simp only [List.map_cons, List.map_nil, valV, val_mag, val_i1]
    exact this
  · have := f_Div2 x hx
    rw [← bit_eq, W_small _ (by omega)] at this
    simp only [List.map_cons, List.map_nil, valV, val_inN, val_mag, val_i1]
    exact this
  · have := f_Div2 y hy
    rw [← bit_eq, W_small _ (by omega)] at this
    simp only [List.map_cons, List.map_nil, valV, val_inN, val_mag, val_i1]
    exact this
  · simp only [List.map_cons, List.map_nil, valV_tup2, val_inN, val_i1]
    exact tri_add f1 f2 f3 rfl
  · simp only [List.map_cons, List.map_nil, valV_tup2, val_inN, val_mag, val_i1]
    rw [← W_small _ (show (bit x + bit y) / 2 < 4 by omega)]
    exact tri_add f3 (fit_small _ (by omega)) f4 rfl
theorem app_rows {P : Program} {σ : Nat → Int} {a b : List Row} (ha : ∀ q ∈ a, RowGives P σ q) (hb : ∀ q ∈ b, RowGives P σ q) : ∀ q ∈ a ++ b, RowGives P σ q := fun q hq => by
  rcases List.mem_append.1 hq with h | h
  · exact ha q h
  · exact hb q h
theorem same_ok (σ : Nat → Int) : ∀ t ∈ sameTests, TestOk σ t := by
  intro t ht k
  simp only [sameTests, List.mem_map, List.mem_range] at ht
  obtain ⟨i, _, rfl⟩ := ht
  simp only [intBin, beq_self_eq_true]
theorem bad_add {x y : Int} (hx : fit x) (hy : fit y) (hz : ¬ fit (x + y)) : Gives Tryz.prog 18 [W x, W y] bigV := by
  have := f_Add x y hx hy
  unfold resV at this
  rwa [if_neg hz] at this
end Go.Proofs.YtaafimabgcnbaabGreatDoor
