/-
  The loop of the law WideTells.
-/
import Derived.Test.YtaafimabgcnbaabGreatDoorMLE
import Derived.Test.YtaafimabgcnbaabGreatDoorMR
import Derived.Test.YtaafimabgcnbaabGreatDoorMI
set_option linter.all false
namespace Go.Proofs.YtaafimabgcnbaabGreatDoor
open Go Go.Rx Go.RowKit Go.Big
attribute [local instance] noAv
theorem gives_gets {f : FuncId} {xs : List Value} {x : Value} (h : Gives Tryz.prog f xs x) (W : World) : Calls Tryz.prog f xs.toArray W (Gets (fun _ r => r = x) W) :=
  ((h W).2).mono fun _ _ he => ⟨x, he.1, rfl, he.2⟩
theorem cellsP_len (p : Int × Int) : (cellsP p).length = 16 := rfl
theorem flat_get : ∀ (qs : List (Int × Int)) (k i : Nat), k < qs.length → i < 16 → (qs.flatMap cellsP)[k * 16 + i]? = (cellsP (qs.getD k (0, 0)))[i]?
  | [], k, i, hk, _ => absurd hk (Nat.not_lt_zero _)
  | p :: qs, 0, i, _, hi => by
    rw [List.flatMap_cons, Nat.zero_mul, Nat.zero_add, List.getElem?_append_left (by rw [cellsP_len]; exact hi)]
    rfl
  | p :: qs, k + 1, i, hk, hi => by
    rw [List.flatMap_cons, List.getElem?_append_right (by rw [cellsP_len]; omega), cellsP_len, show (k + 1) * 16 + i - 16 = k * 16 + i by omega]
    exact flat_get qs k i (by simpa using hk) hi
theorem qs_mem {qs : List (Int × Int)} {k : Nat} (h : k < qs.length) : qs.getD k (0, 0) ∈ qs := by
  simp [List.getD, h]
def findL : Code → Option Code
  | .loop c => some (.loop c)
  | .seq a b => match findL a with | some c => some c | none => findL b
  | .block _ c => findL c
  | .scope c => findL c
  | .cond _ a b => match findL a with | some c => some c | none => findL b
  | _ => none
end Go.Proofs.YtaafimabgcnbaabGreatDoor
