/-
  For every state, every number of 8 bits and all labels, a shuffled list has each number once, states go on, and labels that differ lead to states that differ: the law ChanceLists answers true. No condition.
-/
import Derived.Test.YtjnjhmginnaobaaGreatMR
import Derived.Test.YtjnjhmginnaobaaGreatMRyW
import Derived.ChangeSlices
import Derived.WalkKit
import Derived.ProofKit
import Derived.OpenShut
import Derived.ChangeOld
import Derived.Carry
set_option linter.all false
namespace Go.Proofs.YtjnjhmginnaobaaGreat
open Go Go.RowKit Go.Big
open Go.ChangeShapes Go.WideShapes Go.ChangeAt
theorem own : ownKnob Tryz.prog.godebug = none := by kernel_rfl
theorem laidOut : laidOutB Tryz.prog = true := by kernel_rfl
theorem works_c {U : World} : Calls Tryz.prog 5 #[] U (Gets (fun _ r => r = .bool true) U) := by
  obtain ⟨_, h⟩ := Y.k_works (Ry.noLoc (Ry.lets0 fun _ => 0)) [] U .nil
  refine h.mono fun e w' he => ?_
  obtain ⟨x, rfl, hx, hb⟩ := he
  refine ⟨x, rfl, ?_, hb⟩
  cases hx with
  | s k => cases k with
    | one k => exact k.v_inv
theorem wf_i64 {n : Int} (h : (Lit.int .i64 n).wf = true) : -9223372036854775808 ≤ n ∧ n ≤ 9223372036854775807 := by
  have e1 : IntKind.i64.min = -9223372036854775808 := by decide
  have e2 : IntKind.i64.max = 9223372036854775807 := by decide
  simp only [Lit.wf, Bool.and_eq_true, decide_eq_true_eq, e1, e2] at h
  exact h
set_option maxRecDepth 100000 in
theorem int_arg {U : World} {bb : Nat} {v : Value} (hv : Value.okWide Tryz.prog U .any bb 3 v) : ∃ n : Int, -9223372036854775808 ≤ n ∧ n ≤ 9223372036854775807 ∧ v = .int .i64 n := by
  have e1 : IntKind.i64.min = -9223372036854775808 := by decide
  have e2 : IntKind.i64.max = 9223372036854775807 := by decide
  have hv' : Cell.ok Tryz.prog U .any bb 3 v := by simpa only [Value.okWide, Cell.okWide, Tryz.underlying3] using hv
  unfold Cell.ok at hv'
  rw [Tryz.underlying3] at hv'
  cases v with
  | int k n =>
    obtain ⟨rfl, h1, h2⟩ := hv'
    rw [e1] at h1; rw [e2] at h2
    exact ⟨n, h1, h2, rfl⟩
  | _ => exact hv'.elim
set_option maxRecDepth 100000 in
theorem word_arg {U : World} {bb : Nat} {v : Value} (hv : Value.okWide Tryz.prog U .any bb 22 v) : ∃ n : Int, 0 ≤ n ∧ n < 18446744073709551616 ∧ v = .int .u64 n := by
  have e1 : IntKind.u64.min = 0 := by decide
  have e2 : IntKind.u64.max = 18446744073709551615 := by decide
  have hv' : Cell.ok Tryz.prog U .any bb 22 v := by simpa only [Value.okWide, Cell.okWide, Tryz.underlying22] using hv
  unfold Cell.ok at hv'
  rw [Tryz.underlying22] at hv'
  cases v with
  | int k n =>
    obtain ⟨rfl, h1, h2⟩ := hv'
    rw [e1] at h1; rw [e2] at h2
    exact ⟨n, h1, by omega, rfl⟩
  | _ => exact hv'.elim
theorem cells24 : Tryz.prog.cellsOf 24 = 1 := by kernel_rfl
theorem types24 : Tryz.prog.cellTypes Tryz.prog.depth 24 = some [22] := by kernel_rfl
set_option maxRecDepth 100000 in
/-- A state. -/
theorem chance_arg {U : World} {bb : Nat} {v : Value} (hv : Value.okWide Tryz.prog U .any bb 24 v) : ∃ s : Int, 0 ≤ s ∧ s < 18446744073709551616 ∧ v = .agg #[.int .u64 s] := by
  obtain ⟨cs, rfl, hn, ts, h1, -, h2⟩ : ∃ cs, v = .agg cs ∧ cs.size = Tryz.prog.cellsOf 24 ∧ Row.okWide Tryz.prog U .any bb 24 cs := by
    simp only [Value.okWide, Tryz.underlying24] at hv
    exact hv
  rw [types24] at h1
  cases h1
  rw [cells24] at hn
  obtain ⟨lst⟩ := cs
  obtain ⟨c, rfl⟩ : ∃ c, lst = [c] := by
    match lst, hn with
    | [c], _ => exact ⟨c, rfl⟩
  obtain ⟨u, k1, k2⟩ := h2 0 c (by simp)
  have : u = 22 := (Option.some.inj (k1.symm.trans (show ([22] : List TypeId)[0 % 1]? = some 22 from rfl)))
  subst this
  obtain ⟨n, n0, n1, rfl⟩ := word_arg (v := c) (by simpa only [Value.okWide, Tryz.underlying22] using k2)
  exact ⟨n, n0, n1, rfl⟩
set_option maxRecDepth 100000 in
theorem byte_arg {U : World} {bb : Nat} {v : Value} (hv : Value.okWide Tryz.prog U .any bb 5 v) : ∃ n : Int, 0 ≤ n ∧ n < 256 ∧ v = .int .u8 n := by
  have e1 : IntKind.u8.min = 0 := by decide
  have e2 : IntKind.u8.max = 255 := by decide
  have hv' : Cell.ok Tryz.prog U .any bb 5 v := by simpa only [Value.okWide, Cell.okWide, Tryz.underlying5] using hv
  unfold Cell.ok at hv'
  rw [Tryz.underlying5] at hv'
  cases v with
  | int k n =>
    obtain ⟨rfl, h1, h2⟩ := hv'
    rw [e1] at h1; rw [e2] at h2
    exact ⟨n, h1, by omega, rfl⟩
  | _ => exact hv'.elim
theorem xor_mod (x b : Int) : bits BinOp.xor IntKind.u64 x b = bits BinOp.xor IntKind.u64 (x % 18446744073709551616) b := by
  have e : BitVec.ofInt 64 x = BitVec.ofInt 64 (x % 18446744073709551616) := by
    apply BitVec.eq_of_toNat_eq
    rw [BitVec.toNat_ofInt, BitVec.toNat_ofInt]
    omega
  show IntKind.u64.wrap ((BitVec.ofInt 64 x ^^^ BitVec.ofInt 64 b).toNat : Int) = IntKind.u64.wrap ((BitVec.ofInt 64 (x % 18446744073709551616) ^^^ BitVec.ofInt 64 b).toNat : Int)
  rw [e]
theorem split_mod (x l : Int) : splitS x l = splitS (x % 18446744073709551616) l := by
  unfold splitS
  rw [xor_mod]
theorem label_iff {a b : Int} (a0 : -9223372036854775808 ≤ a) (a1 : a ≤ 9223372036854775807) (b0 : -9223372036854775808 ≤ b) (b1 : b ≤ 9223372036854775807) (x : Int) : splitS x a = splitS x b ↔ a = b :=
  ⟨fun h => by
    rw [split_mod x a, split_mod x b] at h
    exact split_inj (Int.emod_nonneg _ (by decide)) (Int.emod_lt_of_pos _ (by decide)) a0 (by omega) b0 (by omega) h, fun h => by rw [h]⟩
set_option maxRecDepth 100000 in
theorem lists_lifted (os : Os) (started : os.Started) (H : Type) (enc : TypeId × Value → H) :
    ReturnsInHanded {} Tryz.checked os 3 .any (Rows.chanceListsSpec.pre6 enc Tryz.prog Tryz.f3 Rows.chanceListsRow.domain false) (Rows.chanceListsSpec.post enc Tryz.prog Tryz.f3 false true false false) := by
  refine returnsInHanded_of_change (C := Tryz.checked) own started (by kernel_rfl) Tryz.func3
    (ChangeSpec.witness6 (enc := enc) (C := Tryz.checked) false ⟨#[], #[.agg #[.int .u64 0], .int .u8 0, .int .i64 0, .int .i64 0], []⟩ 8 (by kernel_rfl) (by kernel_rfl) (by kernel_rfl) (by kernel_rfl)) ?_
  intro U base args ds gs before hval0 hW hcnd _
  have hval : ∀ (j : Nat) t v, Tryz.f3.params[j]? = some t → args[j]? = some v → Value.okWide Tryz.prog U .any base t v := hval0
  have hW' := hW
  obtain ⟨p, q, hA0, hV, rfl, hfz, hnd⟩ := hW
  have hA : DataW.TrodAll enc Tryz.prog U 0 (fun _ => true) true Tryz.f3.params.toList args.toList ds p := hA0
  rw [Tryz.params3] at hA hval
  obtain ⟨v0, v1, v2, v3, d0, d1, d2, d3, p0, p1, p2, p3, rfl, rfl, rfl, h0, h1, h2, h3⟩ := trodAll_four hA
  obtain ⟨rfl, rfl⟩ := trodVars_none hV
  have h0' := h0
  have h1' := h1
  have h2' := h2
  have h3' := h3
  obtain ⟨m0, t0⟩ := h0'
  obtain ⟨m1, t1⟩ := h1'
  obtain ⟨m2, t2⟩ := h2'
  obtain ⟨m3, t3⟩ := h3'
  obtain ⟨s, hs0, hs1, rfl⟩ := chance_arg (hval 0 24 v0 rfl rfl)
  obtain ⟨n, hn0, hn1, rfl⟩ := byte_arg (hval 1 5 v1 rfl rfl)
  obtain ⟨a, ha0, ha1, rfl⟩ := int_arg (hval 2 3 v2 rfl rfl)
  obtain ⟨b, hb0, hb1, rfl⟩ := int_arg (hval 3 3 v3 rfl rfl)
  obtain ⟨n, rfl⟩ := Int.eq_ofNat_of_zero_le hn0
  have lt0 : ∀ x ∈ p0, x.block < U.heap.size := DataW.trod_lt m0 _ _ _ t0
  have lt1 : ∀ x ∈ p1, x.block < U.heap.size := DataW.trod_lt m1 _ _ _ t1
  have lt2 : ∀ x ∈ p2, x.block < U.heap.size := DataW.trod_lt m2 _ _ _ t2
  have lt3 : ∀ x ∈ p3, x.block < U.heap.size := DataW.trod_lt m3 _ _ _ t3
  clear hA0 hval0
  refine (lists_law (w := U) (fun _ => works_c) s a b n (by omega) (fun x => label_iff ha0 ha1 hb0 hb1 x)).mono fun e W' he => ?_
  obtain ⟨r, rfl, rfl, bel⟩ := he
  exact ⟨_, rfl, _, _, _, [], _, [], hW', trodAll_mk1 (shut_bool Tryz.underlying4 _), trodAll_cons_mk (Below.trod laidOut (by kernel_rfl) (of_decide_eq_true (by kernel_rfl)) h0 bel lt0) (trodAll_cons_mk (Below.trod laidOut (by kernel_rfl) (of_decide_eq_true (by kernel_rfl)) h1 bel lt1) (trodAll_cons_mk (Below.trod laidOut (by kernel_rfl) (of_decide_eq_true (by kernel_rfl)) h2 bel lt2) (trodAll_cons_mk (Below.trod laidOut (by kernel_rfl) (of_decide_eq_true (by kernel_rfl)) h3 bel lt3) trodAll_mk0))), rfl, bel.frame _, fun h => by cases h⟩
/-- The statement. -/
theorem lists_holds : Rows.ChanceListsSaid :=
  OpenClaim.holds_of_wide 3 Tryz.f3 rfl rfl rfl rfl rfl rfl rfl ⟨rfl, rfl, rfl, rfl, rfl⟩ rfl rfl rfl rfl rfl (by kernel_rfl) Tryz.func3 (by kernel_rfl)
    (of_decide_eq_true (by kernel_rfl)) (by unfold Func.isWrapper; first | (rw [if_pos (by decide +kernel)]; kernel_rfl) | (rw [if_neg (by decide +kernel)]; exact ⟨rfl, rfl⟩))
    (fun os started H enc _ => lists_lifted os started H enc)
#print axioms lists_holds
end Go.Proofs.YtjnjhmginnaobaaGreat
