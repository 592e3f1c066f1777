/-
  The argument 'a draft' of the laws, opened.
-/
import Derived.Test.YtaafimabgcnbaabGreatDoorMLG
set_option linter.all false
namespace Go.Proofs.YtaafimabgcnbaabGreatDoor
open Go Go.Rx Go.RowKit Go.Big
open Go.ChangeShapes Go.WideShapes Go.ChangeAt
attribute [local instance] noAv
set_option maxRecDepth 100000 in
theorem draft_arg {H : Type} {enc : TypeId × Value → H} {U : World} {base : Nat} {sp : Nat → Bool} {held : Bool} {fuel bb : Nat} {v : Value} {x : DataW H × List MemPlace} (hv : Value.okWide Tryz.prog U .any bb 28 v) (h : DataW.trod enc Tryz.prog U base sp held fuel 28 v.cells.toList = some x) :
    ∃ (b : Bool) (bv : Value) (bits : List Int) (l : Int), v = .agg #[.bool b, bv, .int .u32 l] ∧ DraftOk U bv bits l := by
  obtain ⟨cs, rfl, hn, ts, h1, -, h2⟩ : ∃ cs, v = .agg cs ∧ cs.size = Tryz.prog.cellsOf 28 ∧ Row.okWide Tryz.prog U .any bb 28 cs := by
    simp only [Value.okWide, Tryz.underlying28] at hv
    exact hv
  rw [types28] at h1
  cases h1
  rw [cells28] at hn
  obtain ⟨lst⟩ := cs
  obtain ⟨c0, c1, c2, rfl⟩ := list3 (by simpa using hn)
  have kC : Cell.okWide Tryz.prog U .any bb 25 c1 := by
    obtain ⟨u', k1, k2⟩ := h2 1 c1 (by simp)
    have : u' = 25 := Option.some.inj (k1.symm.trans rfl)
    subst this
    exact k2
  obtain ⟨b, bits, l, rfl, rfl, hC⟩ := draft_of (h.trans rfl) kC
  exact ⟨b, c1, bits, l, rfl, hC⟩
end Go.Proofs.YtaafimabgcnbaabGreatDoor
