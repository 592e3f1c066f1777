/-
  The calls of Below in works().
-/
import Derived.Test.YtfeapgpjchjphaaGreatMCI
set_option linter.all false
namespace Go.Proofs.YtfeapgpjchjphaaGreat
open Go Go.RowKit Go.Big Go.Shelf
attribute [local instance] noAv
theorem mix_0 : mix 0 = 16294208416658607535 := by kernel_rfl
theorem mix_1 : mix (stN 1 0) = 7960286522194355700 := by kernel_rfl
theorem mix_2 : mix (stN 2 0) = 487617019471545679 := by kernel_rfl
theorem st_0 : st 0 = 11400714819323198485 := by kernel_rfl
theorem below_first {s n : Int} {r : Value} (h : BelowV s n r) (h0 : okV n (mix s) = true) : r = .tuple #[.int .i64 (wrap64 ((mix s).tmod n)), .agg #[.int .u64 (st s)], .int .i64 0] := by
  rcases h with ⟨i, hi, hno, hok, rfl⟩ | ⟨hno, rfl⟩
  · rcases Nat.eq_zero_or_pos i with rfl | hp
    · rfl
    · have h1 := hno 0 hp
      rw [show stN 0 s = s from rfl, h0] at h1
      exact absurd h1 (by decide)
  · have h1 := hno 0 (by decide)
    rw [show stN 0 s = s from rfl, h0] at h1
    exact absurd h1 (by decide)
theorem below_10 {w : World} : Calls Tryz.prog 6 #[.agg #[.int .u64 0], .int .i64 10] w (Gets (fun _ r => r = .tuple #[.int .i64 5, .agg #[.int .u64 11400714819323198485], .int .i64 0]) w) := by
  refine (Below_c (s := 0) (n := 10) (by decide) (by decide)).mono ?_
  rintro e w' ⟨r, rfl, hv, hb⟩
  refine ⟨r, rfl, ?_, hb⟩
  have := below_first hv (by kernel_rfl)
  rw [this, st_0, show wrap64 ((mix 0).tmod 10) = 5 by kernel_rfl]
theorem below_1 {w : World} : Calls Tryz.prog 6 #[.agg #[.int .u64 0], .int .i64 1] w (Gets (fun _ r => r = .tuple #[.int .i64 0, .agg #[.int .u64 11400714819323198485], .int .i64 0]) w) := by
  refine (Below_c (s := 0) (n := 1) (by decide) (by decide)).mono ?_
  rintro e w' ⟨r, rfl, hv, hb⟩
  refine ⟨r, rfl, ?_, hb⟩
  have := below_first hv (by kernel_rfl)
  rw [this, st_0, show wrap64 ((mix 0).tmod 1) = 0 by kernel_rfl]
end Go.Proofs.YtfeapgpjchjphaaGreat
