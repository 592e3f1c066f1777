/-
  THE RUNNER at this program: what it takes for known of the library, and that it is so.
-/
import Derived.Test.YtjjibclfmknblaaGreatMRM
import Derived.Test.YtjjibclfmknblaaGreatRows
set_option linter.all false
namespace Go.Proofs.YtjjibclfmknblaaGreat.Y
open Go Go.Ry Go.RowKit

def extX (_ : FuncId) (_ : List V1) : Option V := none
theorem ext_ok (f : FuncId) (l : List V1) (v : V) (h : extX f l = some v) (ρ : Loc') (xs : List Value) (_ : All2 (D1 ρ) l xs) : ∃ x, DV ρ v x ∧ ∀ w, (callFunc f xs.toArray).run Tryz.prog w = .ok (.value x) w := by cases h
noncomputable def envOf (rs : List Row) : Env := ⟨Tryz.prog, extX, sumOf rs, lets0 fun _ => 0, fun _ _ _ => none, fun _ => none, fun _ _ _ => []⟩
theorem names_ok : (Tryz.prog.funcs.toList.all fun fn => !(fn.name == "runtime.NumGoroutine")) = true := by kernel_rfl
theorem env_ok {rs : List Row} (hr : ∀ r ∈ rs, Known Tryz.prog r.f r.l r.v) (W : Base) : EnvOk (envOf rs) W where
  mixed := by show Tryz.prog.follows .mixedOrders = true; kernel_rfl
  name := fun f fn hf => by
    have h1 := List.all_eq_true.1 names_ok fn (by
      have : Tryz.prog.funcs[f]? = some fn := hf
      exact Array.mem_toList_iff.2 (Array.mem_of_getElem? this))
    simpa using h1
  ext := fun f l v h ρ xs _ hx => ext_ok f l v h ρ xs hx
  sum := fun f l v h ρ xs w _ _ hx => sumOf_known hr h ρ xs w hx
  test := fun _ _ _ _ h => (by cases h)
theorem env0 (W : Base) : EnvOk (envOf []) W := env_ok (fun r h => (by cases h)) W
end Go.Proofs.YtjjibclfmknblaaGreat.Y
