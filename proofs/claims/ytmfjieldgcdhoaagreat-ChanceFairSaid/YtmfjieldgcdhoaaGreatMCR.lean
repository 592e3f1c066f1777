/-
  For every number x of 64 bits and every integer n, numbers below the limit made of n are drawn evenly: the law ChanceFair answers true. No condition.
-/
import Derived.Test.YtmfjieldgcdhoaaGreatMCN
import Derived.Test.YtmfjieldgcdhoaaGreatMCP
set_option linter.all false
namespace Go.Proofs.YtmfjieldgcdhoaaGreat
open Go Go.RowKit Go.Big
open Go.ChangeShapes Go.WideShapes Go.ChangeAt
set_option maxRecDepth 100000 in
theorem fair_lifted (os : Os) (started : os.Started) (H : Type) (enc : TypeId × Value → H) :
    ReturnsInHanded {} Tryz.checked os 4 .any (Rows.chanceFairSpec.pre6 enc Tryz.prog Tryz.f4 Rows.chanceFairRow.domain false) (Rows.chanceFairSpec.post enc Tryz.prog Tryz.f4 false true false false) := by
  refine returnsInHanded_of_change (C := Tryz.checked) own started (by kernel_rfl) Tryz.func4
    (ChangeSpec.witness6 (enc := enc) (C := Tryz.checked) false ⟨#[], #[.int .u64 0, .int .i64 0], []⟩ 8 (by kernel_rfl) (by kernel_rfl) (by kernel_rfl) (by kernel_rfl)) ?_
  intro U base args ds gs before hval0 hW hcnd _
  have hval : ∀ (j : Nat) t v, Tryz.f4.params[j]? = some t → args[j]? = some v → Value.okWide Tryz.prog U .any base t v := hval0
  have hW' := hW
  obtain ⟨p, q, hA0, hV, rfl, hfz, hnd⟩ := hW
  have hA : DataW.TrodAll enc Tryz.prog U 0 (fun _ => true) true Tryz.f4.params.toList args.toList ds p := hA0
  rw [Tryz.params4] at hA hval
  obtain ⟨v0, v1, d0, d1, p0, p1, rfl, rfl, rfl, h0, h1⟩ := trodAll_two hA
  obtain ⟨rfl, rfl⟩ := trodVars_none hV
  have h0' := h0
  have h1' := h1
  obtain ⟨m0, t0⟩ := h0'
  obtain ⟨m1, t1⟩ := h1'
  obtain ⟨s, hs0, hs1, rfl⟩ := word_arg (hval 0 22 v0 rfl rfl)
  obtain ⟨n, hn0, hn1, rfl⟩ := int_arg (hval 1 3 v1 rfl rfl)
  have lt0 : ∀ x ∈ p0, x.block < U.heap.size := DataW.trod_lt m0 _ _ _ t0
  have lt1 : ∀ x ∈ p1, x.block < U.heap.size := DataW.trod_lt m1 _ _ _ t1
  clear hA0 hval0
  refine (fair_law (w := U) (fun _ => works_c) s n hs0 hs1).mono fun e W' he => ?_
  obtain ⟨r, rfl, rfl, bel⟩ := he
  exact ⟨_, rfl, _, _, _, [], _, [], hW', trodAll_mk1 (shut_bool Tryz.underlying4 _), trodAll_cons_mk (Below.trod laidOut (by kernel_rfl) (of_decide_eq_true (by kernel_rfl)) h0 bel lt0) (trodAll_cons_mk (Below.trod laidOut (by kernel_rfl) (of_decide_eq_true (by kernel_rfl)) h1 bel lt1) trodAll_mk0), rfl, bel.frame _, fun h => by cases h⟩
/-- The statement. -/
theorem fair_holds : Rows.ChanceFairSaid :=
  OpenClaim.holds_of_wide 4 Tryz.f4 rfl rfl rfl rfl rfl rfl rfl ⟨rfl, rfl, rfl, rfl, rfl⟩ rfl rfl rfl rfl rfl (by kernel_rfl) Tryz.func4 (by kernel_rfl)
    (of_decide_eq_true (by kernel_rfl)) (by unfold Func.isWrapper; first | (rw [if_pos (by decide +kernel)]; kernel_rfl) | (rw [if_neg (by decide +kernel)]; exact ⟨rfl, rfl⟩))
    (fun os started H enc _ => fair_lifted os started H enc)
#print axioms fair_holds
end Go.Proofs.YtmfjieldgcdhoaaGreat
