/-
  Two equal rows: slices.Equal of integers.
-/
import Derived.Test.YtfeapgpjchjphaaGreatMCT
import Derived.Test.YtfeapgpjchjphaaGreatMK
set_option linter.all false
namespace Go.Proofs.YtfeapgpjchjphaaGreat
open Go Go.RowKit Go.Big
attribute [local instance] noAv
def EqRel (w : World) (L : Nat) (a : Value) (wr : World) : Prop := ∃ j : Nat, a = .int .i64 j ∧ j ≤ L ∧ Below w.heap.size w wr
set_option maxHeartbeats 1600000 in
set_option maxRecDepth 100000 in
theorem equal_c {w : World} {u v : Value} {xs : List Int} (h1 : RowK .i64 w u xs) (h2 : RowK .i64 w v xs) (hl : xs.length ≤ 400) : Calls Tryz.prog 15 #[u, v] w (Gets (fun _ r => r = .bool true) w) := by
  obtain ⟨a, c, rfl, hc⟩ := h1.len
  obtain ⟨a', c', rfl, hc'⟩ := h2.len
  generalize hL : xs.length = L at *
  go_enter Tryz.func15, Tryz.ntmps15
  go_wp2_with fail
  go_loopw [13] (EqRel w L) (fun i _ => L - (intOf i).toNat)
  case atStart => exact ⟨0, rfl, Nat.zero_le _, Below.refl _ _⟩
  case round =>
    obtain ⟨j, rfl, hj, hb⟩ := hrel
    by_cases h8 : L = j
    · subst h8
      clear h1 h2
      go_wp2
      go_ret
      exact ⟨_, rfl, rfl, hb⟩
    · have j2 : (L : Int) ≤ 400 := by omega
      have j0 : (0 : Int) ≤ (j : Int) := by omega
      have j1 : (j : Int) < (L : Int) := by omega
      obtain ⟨b, o, rfl, -, c1⟩ := (h1.below hb).cell (j := j) (by omega)
      obtain ⟨b', o', rfl, -, c2⟩ := (h2.below hb).cell (j := j) (by omega)
      have hfin : ∀ q, EqRel w L (.int .i64 ((j : Int) + 1)) (wr.drewN q) := fun q => ⟨j + 1, rfl, by omega, below_drewN hb⟩
      generalize xs.getD j 0 = x at *
      clear h1 h2 hb
      go_wp2_with fail
      go_quiet (fail)
      go_wp2
      go_roundw
      case rel => exact hfin _
      case measure => simp [intOf]; omega
end Go.Proofs.YtfeapgpjchjphaaGreat
