/-
  THE RUNNER, COMPILED, at this program.
-/
import Derived.Test.YtchmpdkicbmnfaaGreatMRN
import Derived.Test.YtchmpdkicbmnfaaGreatMTW
set_option linter.all false
namespace Go.Proofs.YtchmpdkicbmnfaaGreat.Y
open Go Go.Ry Go.RowKit
def isExt (f : FuncId) : Bool := Nat.beq f 91 || Nat.beq f 92
theorem tab_ok (rs : List Row) : TabOk (envOf rs) rs isExt := by
  refine ⟨fun f l h => ?_, fun f l => rfl⟩
  unfold isExt at h
  simp only [Bool.or_eq_false_iff] at h
  show extX f l = none
  unfold extX
  split
  · rw [h.1, h.2]; rfl
  · rfl
theorem row_now {rs : List Row} (hr : ∀ r ∈ rs, Known Tryz.prog r.f r.l r.v) {r : Row} (h : (r.l.all bare1 && bareV r.v && isRun r (runC (envOf rs) rs isExt 3000 200 true r.f r.l mem0)) = true) : Known Tryz.prog r.f r.l r.v :=
  row_knownC (env_ok hr) (tab_ok rs) 3000 200 h
end Go.Proofs.YtchmpdkicbmnfaaGreat.Y
