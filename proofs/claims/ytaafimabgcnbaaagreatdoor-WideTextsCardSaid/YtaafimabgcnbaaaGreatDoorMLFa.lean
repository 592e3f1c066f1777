/-
  The loop of the law WideTells.
-/
import Derived.Test.YtaafimabgcnbaaaGreatDoorMLE
import Derived.Test.YtaafimabgcnbaaaGreatDoorMR
import Derived.Test.YtaafimabgcnbaaaGreatDoorMI
set_option linter.all false
namespace Go.Proofs.YtaafimabgcnbaaaGreatDoor
open Go Go.Rx Go.RowKit Go.Big
attribute [local instance] noAv
theorem gives_gets {f : FuncId} {xs : List Value} {x : Value} (h : Gives Tryz.prog f xs x) (W : World) : Calls Tryz.prog f xs.toArray W (Gets (fun _ r => r = x) W) :=
  ((h W).2).mono fun _ _ he => ⟨x, he.1, rfl, he.2⟩
theorem cellsP_len (p : Int × Int) : (cellsP p).length = 16 := rfl
theorem flat_get : ∀ (qs : List (Int × Int)) (k i : Nat), k < qs.length → i < 16 → (qs.flatMap cellsP)[k * 16 + i]? = (cellsP (qs.getD k (0, 0)))[i]?
  | [], k, i, hk, _ => absurd hk (Nat.not_lt_zero _)
  | p :: qs, 0, i, _, hi => by
    rw [List.flatMap_cons, Nat.zero_mul, Nat.zero_add, List.getElem?_append_left (by rw [cellsP_len]; exact hi)]
    rfl
  | p :: qs, k + 1, i, hk, hi => by
    rw [List.flatMap_cons, List.getElem?_append_right (by rw [cellsP_len]; omega), cellsP_len, show (k + 1) * 16 + i - 16 = k * 16 + i by omega]
    exact flat_get qs k i (by simpa using hk) hi
theorem qs_mem {qs : List (Int × Int)} {k : Nat} (h : k < qs.length) : qs.getD k (0, 0) ∈ qs := by
  simp [List.getD, h]
/-- The cells of a pair in a row. -/
theorem pair_cells {U : World} {base g cap : Nat} {qs : List (Int × Int)} {k : Nat} {x y : Int} {x0 x1 x2 x3 x4 x5 x6 x7 y0 y1 y2 y3 y4 y5 y6 y7 : Int} (hown : U.ownsRow base 34 16 (.slice (some ⟨g, 0, none⟩) 7 cap) 7 (qs.flatMap cellsP)) (hl : qs.length = 7) (hk : k < 7) (hxy : qs.getD k (0, 0) = (x, y))
    (hx : W x = .agg #[.int .u64 x0, .int .u64 x1, .int .u64 x2, .int .u64 x3, .int .u64 x4, .int .u64 x5, .int .u64 x6, .int .u64 x7]) (hy : W y = .agg #[.int .u64 y0, .int .u64 y1, .int .u64 y2, .int .u64 y3, .int .u64 y4, .int .u64 y5, .int .u64 y6, .int .u64 y7]) : U.cell? ⟨g, k * 16, none⟩ = some (.int .u64 x0) ∧ U.cell? ⟨g, k * 16 + 1, none⟩ = some (.int .u64 x1) ∧ U.cell? ⟨g, k * 16 + 2, none⟩ = some (.int .u64 x2) ∧ U.cell? ⟨g, k * 16 + 3, none⟩ = some (.int .u64 x3) ∧ U.cell? ⟨g, k * 16 + 4, none⟩ = some (.int .u64 x4) ∧ U.cell? ⟨g, k * 16 + 5, none⟩ = some (.int .u64 x5) ∧ U.cell? ⟨g, k * 16 + 6, none⟩ = some (.int .u64 x6) ∧ U.cell? ⟨g, k * 16 + 7, none⟩ = some (.int .u64 x7) ∧ U.cell? ⟨g, k * 16 + 8, none⟩ = some (.int .u64 y0) ∧ U.cell? ⟨g, k * 16 + 9, none⟩ = some (.int .u64 y1) ∧ U.cell? ⟨g, k * 16 + 10, none⟩ = some (.int .u64 y2) ∧ U.cell? ⟨g, k * 16 + 11, none⟩ = some (.int .u64 y3) ∧ U.cell? ⟨g, k * 16 + 12, none⟩ = some (.int .u64 y4) ∧ U.cell? ⟨g, k * 16 + 13, none⟩ = some (.int .u64 y5) ∧ U.cell? ⟨g, k * 16 + 14, none⟩ = some (.int .u64 y6) ∧ U.cell? ⟨g, k * 16 + 15, none⟩ = some (.int .u64 y7) := by
  have hc : ∀ i, i < 16 → U.cell? ⟨g, k * 16 + i, none⟩ = (cellsP (x, y))[i]? := fun i hi => by
    rw [hown.cellAt _ (by omega), flat_get qs k i (by omega) hi, hxy]
  have e : cellsP (x, y) = [.int .u64 x0, .int .u64 x1, .int .u64 x2, .int .u64 x3, .int .u64 x4, .int .u64 x5, .int .u64 x6, .int .u64 x7, .int .u64 y0, .int .u64 y1, .int .u64 y2, .int .u64 y3, .int .u64 y4, .int .u64 y5, .int .u64 y6, .int .u64 y7] := by unfold cellsP; rw [W8_of hx, W8_of hy]; rfl
  rw [e] at hc
  exact ⟨(hc 0 (by decide)).trans rfl, (hc 1 (by decide)).trans rfl, (hc 2 (by decide)).trans rfl, (hc 3 (by decide)).trans rfl, (hc 4 (by decide)).trans rfl, (hc 5 (by decide)).trans rfl, (hc 6 (by decide)).trans rfl, (hc 7 (by decide)).trans rfl, (hc 8 (by decide)).trans rfl, (hc 9 (by decide)).trans rfl, (hc 10 (by decide)).trans rfl, (hc 11 (by decide)).trans rfl, (hc 12 (by decide)).trans rfl, (hc 13 (by decide)).trans rfl, (hc 14 (by decide)).trans rfl, (hc 15 (by decide)).trans rfl⟩
def findL : Code → Option Code
  | .loop c => some (.loop c)
  | .seq a b => match findL a with | some c => some c | none => findL b
  | .block _ c => findL c
  | .scope c => findL c
  | .cond _ a b => match findL a with | some c => some c | none => findL b
  | _ => none
end Go.Proofs.YtaafimabgcnbaaaGreatDoor
