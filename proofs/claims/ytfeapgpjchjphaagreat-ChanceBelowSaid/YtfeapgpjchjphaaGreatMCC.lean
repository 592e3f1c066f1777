/-
  The law ChanceNext, over the contract of works.
-/
import Derived.Test.YtfeapgpjchjphaaGreatMCA
import Derived.Deep.RegionHeld3
import Derived.Lib.Hide
set_option linter.all false
namespace Go.Proofs.YtfeapgpjchjphaaGreat
open Go Go.RowKit Go.Big
attribute [local instance] noAv
theorem ltH {W : World} {z : Obj} {B : Nat} (h : W.heap[B]? = some z) : B < W.heap.size := (Array.getElem?_eq_some_iff.1 h).1
theorem keepH {W w' : World} {z : Obj} {B : Nat} (h : W.heap[B]? = some z) (hb : Below W.heap.size W w') : w'.heap[B]? = some z := (hb.block B (ltH h)).trans h
theorem keepA {W w' : World} {z o : Obj} {B : Nat} (h : W.heap[B]? = some z) (hb : Below (W.alloc o).heap.size (W.alloc o) w') : w'.heap[B]? = some z ∧ w'.heap[W.heap.size]? = some o :=
  ⟨keepH (keepH h ((Below.refl _ W).alloc (Nat.le_refl _) o)) hb, (hb.block W.heap.size (by simp)).trans (MapKept.heap_alloc W o).1⟩
def findRc (n : Nat) : Code → Option Code
  | .region k ops d => if k = n then some (.region k ops d) else none
  | .seq a b => match findRc n a with | some c => some c | none => findRc n b
  | .cond _ a b => match findRc n a with | some c => some c | none => findRc n b
  | .loop a => findRc n a
  | .block _ a => findRc n a
  | _ => none
end Go.Proofs.YtfeapgpjchjphaaGreat
