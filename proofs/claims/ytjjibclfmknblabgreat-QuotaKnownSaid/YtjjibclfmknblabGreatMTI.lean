/-
  THE RUNNER, COMPILED, at this program.
-/
import Derived.Test.YtjjibclfmknblabGreatMRN
import Derived.Test.YtjjibclfmknblabGreatMTW
set_option linter.all false
namespace Go.Proofs.YtjjibclfmknblabGreat.Y
open Go Go.Ry Go.RowKit
def isExt (f : FuncId) : Bool := Nat.beq f 125 || Nat.beq f 91
noncomputable def envT (T : Tab) : Env := ⟨Tryz.prog, extX, sumT T, lets0 fun _ => 0, fun _ _ _ => none, fun _ => none, askF Tryz.prog⟩
structure TabKnown (T : Tab) : Prop where
  rows : ∀ r ∈ T.rows, Known Tryz.prog r.f r.l r.v
  fam : ∀ f l v, T.fam f l = some v → Known Tryz.prog f l v
  deep : ∀ d ∈ T.deep, Deep Tryz.prog (lets0 fun _ => 0) d
theorem sumT_known {T : Tab} (hT : TabKnown T) {f : FuncId} {l : List V1} {v : V} (h : sumT T f l = some v) : Known Tryz.prog f l v := by
  unfold sumT at h
  split at h
  · rename_i u hu
    cases h
    exact hT.fam f l _ hu
  · exact sumOf_known hT.rows h
theorem envT_ok {T : Tab} (hT : TabKnown T) (W : Base) : EnvOk (envT T) W where
  mixed := by show Tryz.prog.follows .mixedOrders = true; kernel_rfl
  name := fun f fn hf => by
    have h1 := List.all_eq_true.1 names_ok fn (by
      have : Tryz.prog.funcs[f]? = some fn := hf
      exact Array.mem_toList_iff.2 (Array.mem_of_getElem? this))
    simpa using h1
  ext := fun f l v h ρ xs _ hx => ext_ok f l v h ρ xs hx
  sum := fun f l v h ρ xs w _ _ hx => sumT_known hT h ρ xs w hx
  test := fun _ _ _ _ h => (by cases h)
theorem tab_ok {T : Tab} (hT : TabKnown T) : TabOk (envT T) T isExt := by
  refine ⟨fun f l h => ?_, fun f l => rfl, hT.deep, fun _ => rfl⟩
  unfold isExt at h
  simp only [Bool.or_eq_false_iff] at h
  show extX f l = none
  unfold extX
  split
  · rw [h.1, h.2]; rfl
  · rfl
def tab (rs : List Row) : Tab := ⟨rs, fun _ _ => none, []⟩
theorem tab_known {rs : List Row} (hr : ∀ r ∈ rs, Known Tryz.prog r.f r.l r.v) : TabKnown (tab rs) := ⟨hr, fun _ _ _ h => (by cases h), fun _ h => (by cases h)⟩
theorem row_nowT {T : Tab} (hT : TabKnown T) {r : Row} (h : (r.l.all bare1 && bareV r.v && isRun r (runC (envT T) T isExt 3000 200 true r.f r.l mem0)) = true) : Known Tryz.prog r.f r.l r.v :=
  row_knownC (envT_ok hT) (tab_ok hT) 3000 200 h
theorem deep_nowT {T : Tab} (hT : TabKnown T) {d : DRow} (h : chkD d (runC (envT T) T isExt 3000 200 true d.f d.l (memL d.bl)) = true) : Deep Tryz.prog (lets0 fun _ => 0) d :=
  deep_knownC (envT_ok hT) (tab_ok hT) 3000 200 h
theorem row_now {rs : List Row} (hr : ∀ r ∈ rs, Known Tryz.prog r.f r.l r.v) {r : Row} (h : (r.l.all bare1 && bareV r.v && isRun r (runC (envT (tab rs)) (tab rs) isExt 3000 200 true r.f r.l mem0)) = true) : Known Tryz.prog r.f r.l r.v :=
  row_nowT (tab_known hr) h
end Go.Proofs.YtjjibclfmknblabGreat.Y
