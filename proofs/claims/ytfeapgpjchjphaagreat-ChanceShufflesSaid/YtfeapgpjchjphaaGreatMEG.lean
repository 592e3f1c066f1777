/-
  For every state and all numbers, Shuffle of package chance agrees with the reference: the law ChanceShuffles answers true. No condition.
-/
import Derived.Test.YtfeapgpjchjphaaGreatMEF
import Derived.Test.YtfeapgpjchjphaaGreatMRyW
import Derived.ChangeSlices
import Derived.WalkKit
import Derived.ProofKit
import Derived.OpenShut
import Derived.ChangeOld
import Derived.Carry
set_option linter.all false
namespace Go.Proofs.YtfeapgpjchjphaaGreat
open Go Go.RowKit Go.Big
open Go.ChangeShapes Go.WideShapes Go.ChangeAt
theorem own : ownKnob Tryz.prog.godebug = none := by kernel_rfl
theorem laidOut : laidOutB Tryz.prog = true := by kernel_rfl
theorem works_c {U : World} : Calls Tryz.prog 5 #[] U (Gets (fun _ r => r = .bool true) U) := by
  obtain ⟨_, h⟩ := Y.k_works (Ry.noLoc (Ry.lets0 fun _ => 0)) [] U .nil
  refine h.mono fun e w' he => ?_
  obtain ⟨x, rfl, hx, hb⟩ := he
  refine ⟨x, rfl, ?_, hb⟩
  cases hx with
  | s k => cases k with
    | one k => exact k.v_inv
theorem wf_i64 {n : Int} (h : (Lit.int .i64 n).wf = true) : -9223372036854775808 ≤ n ∧ n ≤ 9223372036854775807 := by
  have e1 : IntKind.i64.min = -9223372036854775808 := by decide
  have e2 : IntKind.i64.max = 9223372036854775807 := by decide
  simp only [Lit.wf, Bool.and_eq_true, decide_eq_true_eq, e1, e2] at h
  exact h
set_option maxRecDepth 100000 in
theorem int_arg {U : World} {bb : Nat} {v : Value} (hv : Value.okWide Tryz.prog U .any bb 3 v) : ∃ n : Int, -9223372036854775808 ≤ n ∧ n ≤ 9223372036854775807 ∧ v = .int .i64 n := by
  have e1 : IntKind.i64.min = -9223372036854775808 := by decide
  have e2 : IntKind.i64.max = 9223372036854775807 := by decide
  have hv' : Cell.ok Tryz.prog U .any bb 3 v := by simpa only [Value.okWide, Cell.okWide, Tryz.underlying3] using hv
  unfold Cell.ok at hv'
  rw [Tryz.underlying3] at hv'
  cases v with
  | int k n =>
    obtain ⟨rfl, h1, h2⟩ := hv'
    rw [e1] at h1; rw [e2] at h2
    exact ⟨n, h1, h2, rfl⟩
  | _ => exact hv'.elim
set_option maxRecDepth 100000 in
theorem word_arg {U : World} {bb : Nat} {v : Value} (hv : Value.okWide Tryz.prog U .any bb 22 v) : ∃ n : Int, 0 ≤ n ∧ n < 18446744073709551616 ∧ v = .int .u64 n := by
  have e1 : IntKind.u64.min = 0 := by decide
  have e2 : IntKind.u64.max = 18446744073709551615 := by decide
  have hv' : Cell.ok Tryz.prog U .any bb 22 v := by simpa only [Value.okWide, Cell.okWide, Tryz.underlying22] using hv
  unfold Cell.ok at hv'
  rw [Tryz.underlying22] at hv'
  cases v with
  | int k n =>
    obtain ⟨rfl, h1, h2⟩ := hv'
    rw [e1] at h1; rw [e2] at h2
    exact ⟨n, h1, by omega, rfl⟩
  | _ => exact hv'.elim
theorem cells24 : Tryz.prog.cellsOf 24 = 1 := by kernel_rfl
theorem types24 : Tryz.prog.cellTypes Tryz.prog.depth 24 = some [22] := by kernel_rfl
set_option maxRecDepth 100000 in
/-- A state. -/
theorem chance_arg {U : World} {bb : Nat} {v : Value} (hv : Value.okWide Tryz.prog U .any bb 24 v) : ∃ s : Int, 0 ≤ s ∧ s < 18446744073709551616 ∧ v = .agg #[.int .u64 s] := by
  obtain ⟨cs, rfl, hn, ts, h1, -, h2⟩ : ∃ cs, v = .agg cs ∧ cs.size = Tryz.prog.cellsOf 24 ∧ Row.okWide Tryz.prog U .any bb 24 cs := by
    simp only [Value.okWide, Tryz.underlying24] at hv
    exact hv
  rw [types24] at h1
  cases h1
  rw [cells24] at hn
  obtain ⟨lst⟩ := cs
  obtain ⟨c, rfl⟩ : ∃ c, lst = [c] := by
    match lst, hn with
    | [c], _ => exact ⟨c, rfl⟩
  obtain ⟨u, k1, k2⟩ := h2 0 c (by simp)
  have : u = 22 := (Option.some.inj (k1.symm.trans (show ([22] : List TypeId)[0 % 1]? = some 22 from rfl)))
  subst this
  obtain ⟨n, n0, n1, rfl⟩ := word_arg (v := c) (by simpa only [Value.okWide, Tryz.underlying22] using k2)
  exact ⟨n, n0, n1, rfl⟩
set_option maxRecDepth 100000 in
theorem half_arg {U : World} {bb : Nat} {v : Value} (hv : Value.okWide Tryz.prog U .any bb 43 v) : ∃ n : Int, 0 ≤ n ∧ n < 65536 ∧ v = .int .u16 n := by
  have e1 : IntKind.u16.min = 0 := by decide
  have e2 : IntKind.u16.max = 65535 := by decide
  have hv' : Cell.ok Tryz.prog U .any bb 43 v := by simpa only [Value.okWide, Cell.okWide, Tryz.underlying43] using hv
  unfold Cell.ok at hv'
  rw [Tryz.underlying43] at hv'
  cases v with
  | int k n =>
    obtain ⟨rfl, h1, h2⟩ := hv'
    rw [e1] at h1; rw [e2] at h2
    exact ⟨n, h1, by omega, rfl⟩
  | _ => exact hv'.elim
set_option maxRecDepth 100000 in
theorem shuffles_lifted (os : Os) (started : os.Started) (H : Type) (enc : TypeId × Value → H) :
    ReturnsInHanded {} Tryz.checked os 4 .any (Rows.chanceShufflesSpec.pre6 enc Tryz.prog Tryz.f4 Rows.chanceShufflesRow.domain false) (Rows.chanceShufflesSpec.post enc Tryz.prog Tryz.f4 false true false false) := by
  refine returnsInHanded_of_change (C := Tryz.checked) own started (by kernel_rfl) Tryz.func4
    (ChangeSpec.witness6 (enc := enc) (C := Tryz.checked) false ⟨#[], #[.agg #[.int .u64 0], .int .i64 0, .int .u16 0], []⟩ 8 (by kernel_rfl) (by kernel_rfl) (by kernel_rfl) (by kernel_rfl)) ?_
  intro U base args ds gs before hval0 hW hcnd _
  have hval : ∀ (j : Nat) t v, Tryz.f4.params[j]? = some t → args[j]? = some v → Value.okWide Tryz.prog U .any base t v := hval0
  have hW' := hW
  obtain ⟨p, q, hA0, hV, rfl, hfz, hnd⟩ := hW
  have hA : DataW.TrodAll enc Tryz.prog U 0 (fun _ => true) true Tryz.f4.params.toList args.toList ds p := hA0
  rw [Tryz.params4] at hA hval
  obtain ⟨v0, v1, v2, d0, d1, d2, p0, p1, p2, rfl, rfl, rfl, h0, h1, h2⟩ := trodAll_three hA
  obtain ⟨rfl, rfl⟩ := trodVars_none hV
  have h0' := h0
  have h1' := h1
  have h2' := h2
  obtain ⟨m0, t0⟩ := h0'
  obtain ⟨m1, t1⟩ := h1'
  obtain ⟨m2, t2⟩ := h2'
  obtain ⟨s, hs0, hs1, rfl⟩ := chance_arg (hval 0 24 v0 rfl rfl)
  obtain ⟨n, hn0, hn1, rfl⟩ := int_arg (hval 1 3 v1 rfl rfl)
  obtain ⟨f, hf0, hf1, rfl⟩ := half_arg (hval 2 43 v2 rfl rfl)
  have lt0 : ∀ x ∈ p0, x.block < U.heap.size := DataW.trod_lt m0 _ _ _ t0
  have lt1 : ∀ x ∈ p1, x.block < U.heap.size := DataW.trod_lt m1 _ _ _ t1
  have lt2 : ∀ x ∈ p2, x.block < U.heap.size := DataW.trod_lt m2 _ _ _ t2
  clear hA0 hval0
  refine (shuffles_law (w := U) (fun _ => works_c) s n f hf0 hf1).mono fun e W' he => ?_
  obtain ⟨r, rfl, rfl, bel⟩ := he
  exact ⟨_, rfl, _, _, _, [], _, [], hW', trodAll_mk1 (shut_bool Tryz.underlying4 _), trodAll_cons_mk (Below.trod laidOut (by kernel_rfl) (of_decide_eq_true (by kernel_rfl)) h0 bel lt0) (trodAll_cons_mk (Below.trod laidOut (by kernel_rfl) (of_decide_eq_true (by kernel_rfl)) h1 bel lt1) (trodAll_cons_mk (Below.trod laidOut (by kernel_rfl) (of_decide_eq_true (by kernel_rfl)) h2 bel lt2) trodAll_mk0)), rfl, bel.frame _, fun h => by cases h⟩
/-- The statement. -/
theorem shuffles_holds : Rows.ChanceShufflesSaid :=
  OpenClaim.holds_of_wide 4 Tryz.f4 rfl rfl rfl rfl rfl rfl rfl ⟨rfl, rfl, rfl, rfl, rfl⟩ rfl rfl rfl rfl rfl (by kernel_rfl) Tryz.func4 (by kernel_rfl)
    (of_decide_eq_true (by kernel_rfl)) (by unfold Func.isWrapper; first | (rw [if_pos (by decide +kernel)]; kernel_rfl) | (rw [if_neg (by decide +kernel)]; exact ⟨rfl, rfl⟩))
    (fun os started H enc _ => shuffles_lifted os started H enc)
#print axioms shuffles_holds
end Go.Proofs.YtfeapgpjchjphaaGreat
