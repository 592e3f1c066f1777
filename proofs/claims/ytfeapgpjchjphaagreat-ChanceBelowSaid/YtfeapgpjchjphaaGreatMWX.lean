/-
  For every state, all numbers, words and drafts, Below and Wide of package chance agree with the reference: the law ChanceBelow answers true. No condition.
-/
import Derived.Test.YtfeapgpjchjphaaGreatMW3
import Derived.Test.YtfeapgpjchjphaaGreatMRyW
import Derived.Test.YtfeapgpjchjphaaGreatMJ
import Derived.Test.YtfeapgpjchjphaaGreatMK
import Derived.ChangeSlices
import Derived.WalkKit
import Derived.ProofKit
import Derived.OpenShut
import Derived.ChangeOld
import Derived.Carry
set_option linter.all false
namespace Go.Proofs.YtfeapgpjchjphaaGreat
open Go Go.Rx Go.RowKit Go.Big
open Go.ChangeShapes Go.WideShapes Go.ChangeAt
attribute [local instance] noAv
theorem own : ownKnob Tryz.prog.godebug = none := by kernel_rfl
theorem laidOut : laidOutB Tryz.prog = true := by kernel_rfl
theorem works_c {U : World} : Calls Tryz.prog 5 #[] U (Gets (fun _ r => r = .bool true) U) := by
  obtain ⟨_, h⟩ := Y.k_works (Ry.noLoc (Ry.lets0 fun _ => 0)) [] U .nil
  refine h.mono fun e w' he => ?_
  obtain ⟨x, rfl, hx, hb⟩ := he
  refine ⟨x, rfl, ?_, hb⟩
  cases hx with
  | s k => cases k with
    | one k => exact k.v_inv
set_option maxRecDepth 100000 in
theorem int_arg {U : World} {bb : Nat} {v : Value} (hv : Value.okWide Tryz.prog U .any bb 3 v) : ∃ n : Int, -9223372036854775808 ≤ n ∧ n ≤ 9223372036854775807 ∧ v = .int .i64 n := by
  have e1 : IntKind.i64.min = -9223372036854775808 := by decide
  have e2 : IntKind.i64.max = 9223372036854775807 := by decide
  have hv' : Cell.ok Tryz.prog U .any bb 3 v := by simpa only [Value.okWide, Cell.okWide, Tryz.underlying3] using hv
  unfold Cell.ok at hv'
  rw [Tryz.underlying3] at hv'
  cases v with
  | int k n =>
    obtain ⟨rfl, h1, h2⟩ := hv'
    rw [e1] at h1; rw [e2] at h2
    exact ⟨n, h1, h2, rfl⟩
  | _ => exact hv'.elim
set_option maxRecDepth 100000 in
theorem word_arg {U : World} {bb : Nat} {v : Value} (hv : Value.okWide Tryz.prog U .any bb 22 v) : ∃ n : Int, 0 ≤ n ∧ n < 18446744073709551616 ∧ v = .int .u64 n := by
  have e1 : IntKind.u64.min = 0 := by decide
  have e2 : IntKind.u64.max = 18446744073709551615 := by decide
  have hv' : Cell.ok Tryz.prog U .any bb 22 v := by simpa only [Value.okWide, Cell.okWide, Tryz.underlying22] using hv
  unfold Cell.ok at hv'
  rw [Tryz.underlying22] at hv'
  cases v with
  | int k n =>
    obtain ⟨rfl, h1, h2⟩ := hv'
    rw [e1] at h1; rw [e2] at h2
    exact ⟨n, h1, by omega, rfl⟩
  | _ => exact hv'.elim
theorem cells24 : Tryz.prog.cellsOf 24 = 1 := by kernel_rfl
theorem types24 : Tryz.prog.cellTypes Tryz.prog.depth 24 = some [22] := by kernel_rfl
set_option maxRecDepth 100000 in
/-- A state. -/
theorem chance_arg {U : World} {bb : Nat} {v : Value} (hv : Value.okWide Tryz.prog U .any bb 24 v) : ∃ s : Int, 0 ≤ s ∧ s < 18446744073709551616 ∧ v = .agg #[.int .u64 s] := by
  obtain ⟨cs, rfl, hn, ts, h1, -, h2⟩ : ∃ cs, v = .agg cs ∧ cs.size = Tryz.prog.cellsOf 24 ∧ Row.okWide Tryz.prog U .any bb 24 cs := by
    simp only [Value.okWide, Tryz.underlying24] at hv
    exact hv
  rw [types24] at h1
  cases h1
  rw [cells24] at hn
  obtain ⟨lst⟩ := cs
  obtain ⟨c, rfl⟩ : ∃ c, lst = [c] := by
    match lst, hn with
    | [c], _ => exact ⟨c, rfl⟩
  obtain ⟨u, k1, k2⟩ := h2 0 c (by simp)
  have : u = 22 := (Option.some.inj (k1.symm.trans (show ([22] : List TypeId)[0 % 1]? = some 22 from rfl)))
  subst this
  obtain ⟨n, n0, n1, rfl⟩ := word_arg (v := c) (by simpa only [Value.okWide, Tryz.underlying22] using k2)
  exact ⟨n, n0, n1, rfl⟩
theorem word_cell {P : Program} {w : World} {r : Reach} {base : Nat} {u : TypeId} {v : Value} (hu : P.underlying u = some (.int .u64)) (h : Cell.okWide P w r base u v) : ∃ n : Nat, n < 18446744073709551616 ∧ v = .int .u64 n := by
  simp only [Cell.okWide, hu] at h
  cases v <;> simp_all [Cell.ok]
  rename_i k n
  obtain ⟨rfl, h1, h2⟩ := h
  have e1 : IntKind.u64.min = 0 := by decide
  have e2 : IntKind.u64.max = 18446744073709551615 := by decide
  rw [e1] at h1; rw [e2] at h2
  exact ⟨n.toNat, by omega, by omega⟩
theorem list8 {α : Type} (l : List α) (h : l.length = 8) : ∃ a b c d e f g i, l = [a, b, c, d, e, f, g, i] := by
  match l, h with
  | [a, b, c, d, e, f, g, i], _ => exact ⟨a, b, c, d, e, f, g, i, rfl⟩
theorem arg_words {P : Program} {w : World} {r : Reach} {base : Nat} {t u : TypeId} {cs : Array Value} (hct : P.cellTypes P.depth t = some [u, u, u, u, u, u, u, u]) (hu : P.underlying u = some (.int .u64)) (hn : cs.size = 8) (h : Row.okWide P w r base t cs) :
    ∃ x, fit x ∧ Value.agg cs = W x := by
  obtain ⟨ts, h1, _, h2⟩ := h
  rw [hct] at h1
  cases h1
  have key : ∀ (i : Nat) (v : Value), cs[i]? = some v → ∃ n : Nat, n < 18446744073709551616 ∧ v = .int .u64 n := fun i v hv => by
    obtain ⟨u', k1, k2⟩ := h2 i v hv
    have hm : u' ∈ [u, u, u, u, u, u, u, u] := List.mem_of_getElem? k1
    have : u' = u := by simpa using hm
    subst this
    exact word_cell hu k2
  obtain ⟨l⟩ := cs
  obtain ⟨a, b, c, d, e, f, g, i, rfl⟩ := list8 l (by simpa using hn)
  obtain ⟨na, ha, rfl⟩ := key 0 a rfl
  obtain ⟨nb, hb, rfl⟩ := key 1 b rfl
  obtain ⟨nc, hc, rfl⟩ := key 2 c rfl
  obtain ⟨nd, hd, rfl⟩ := key 3 d rfl
  obtain ⟨ne, he, rfl⟩ := key 4 e rfl
  obtain ⟨nf, hf, rfl⟩ := key 5 f rfl
  obtain ⟨ng, hg, rfl⟩ := key 6 g rfl
  obtain ⟨ni, hi, rfl⟩ := key 7 i rfl
  obtain ⟨x, hx, he⟩ := words_wide na nb nc nd ne nf ng ni ha hb hc hd he hf hg hi
  exact ⟨x, hx, he.symm⟩
theorem cells26 : Tryz.prog.cellsOf 26 = 8 := by kernel_rfl
theorem types26 : Tryz.prog.cellTypes Tryz.prog.depth 26 = some [22, 22, 22, 22, 22, 22, 22, 22] := by kernel_rfl
set_option maxRecDepth 100000 in
theorem wide_arg {U : World} {base : Nat} {v : Value} (h : Value.okWide Tryz.prog U .any base 26 v) : ∃ x, fit x ∧ v = W x := by
  obtain ⟨cs, rfl, hn, hr⟩ : ∃ cs, v = .agg cs ∧ cs.size = Tryz.prog.cellsOf 26 ∧ Row.okWide Tryz.prog U .any base 26 cs := by
    simp only [Value.okWide, Tryz.underlying26] at h
    exact h
  rw [cells26] at hn
  exact arg_words types26 Tryz.underlying22 hn hr
theorem cells4 : Tryz.prog.cellsOf 4 = 1 := by kernel_rfl
theorem cells43 : Tryz.prog.cellsOf 43 = 1 := by kernel_rfl
theorem wf_u16 {n : Int} (h : (Lit.int .u16 n).wf = true) : 0 ≤ n ∧ n < 65536 := by
  have e1 : IntKind.u16.min = 0 := by decide
  have e2 : IntKind.u16.max = 65535 := by decide
  simp only [Lit.wf, Bool.and_eq_true, decide_eq_true_eq, e1, e2] at h
  omega
theorem wf_u32 {n : Int} (h : (Lit.int .u32 n).wf = true) : 0 ≤ n ∧ n < 4294967296 := by
  have e1 : IntKind.u32.min = 0 := by decide
  have e2 : IntKind.u32.max = 4294967295 := by decide
  simp only [Lit.wf, Bool.and_eq_true, decide_eq_true_eq, e1, e2] at h
  omega
theorem cells27 : Tryz.prog.cellsOf 27 = 1 := by kernel_rfl
theorem cells28 : Tryz.prog.cellsOf 28 = 1 := by kernel_rfl
theorem cells30 : Tryz.prog.cellsOf 30 = 3 := by kernel_rfl
theorem types30 : Tryz.prog.cellTypes Tryz.prog.depth 30 = some [4, 27, 28] := by kernel_rfl
theorem shape_lt {U : World} {b : Nat} {z : TypeId × Nat} (h : U.shape? b = some z) : b < U.heap.size := by
  rcases Nat.lt_or_ge b U.heap.size with h' | h'
  · exact h'
  · simp [World.shape?, Array.getElem?_eq_none h'] at h
section
variable {H : Type} {enc : TypeId × Value → H} {U : World} {base : Nat} {sp : Nat → Bool} {held : Bool} {fuel : Nat}
theorem list3 {α : Type} {l : List α} (h : l.length = 3) : ∃ a b c, l = [a, b, c] := by
  match l, h with
  | [a, b, c], _ => exact ⟨a, b, c, rfl⟩
set_option maxRecDepth 100000 in
/-- A draft. -/
theorem draft_of {c0 c1 c2 : Value} {x : DataW H × List MemPlace} {r : Reach} {bb : Nat} (h : DataW.trod enc Tryz.prog U base sp held fuel 30 [c0, c1, c2] = some x) (hc : Cell.okWide Tryz.prog U r bb 27 c1) :
    ∃ b bits l, c0 = .bool b ∧ c2 = .int .u32 l ∧ DraftOk U c1 bits l := by
  obtain ⟨xs, n, -, -, -, hx, hf⟩ := DataW.trod_struct Tryz.underlying30 h
  obtain ⟨y0, y1, y2, rfl⟩ := list3 hx
  have f0 : DataW.trod enc Tryz.prog U base sp held n 4 (([c0, c1, c2].drop 0).take (Tryz.prog.cellsOf 4)) = some y0 := hf 0 _ rfl
  have f1 : DataW.trod enc Tryz.prog U base sp held n 27 (([c0, c1, c2].drop 1).take (Tryz.prog.cellsOf 27)) = some y1 := hf 1 _ rfl
  have f2 : DataW.trod enc Tryz.prog U base sp held n 28 (([c0, c1, c2].drop 2).take (Tryz.prog.cellsOf 28)) = some y2 := hf 2 _ rfl
  clear hf h hx
  rw [cells4] at f0
  rw [cells27] at f1
  rw [cells28] at f2
  obtain ⟨b, e0, -⟩ := DataW.trod_bool Tryz.underlying4 (f0.trans rfl)
  obtain ⟨l, e2, -, w2⟩ := DataW.trod_int Tryz.underlying28 (f2.trans rfl)
  have q0 := (List.cons.inj (show [c0] = [Value.bool b] from e0)).1
  have q2 := (List.cons.inj (show [c2] = [Value.int .u32 l] from e2)).1
  obtain ⟨l0, l1⟩ := wf_u32 w2
  rcases open_ints Tryz.underlying27 Tryz.underlying43 cells43 (f1.trans rfl) with ⟨e1, -⟩ | ⟨a, len, cap, zs, e1, -, hl, hm, hz, -, hcell, hwf⟩
  · have e1 := (List.cons.inj (show [c1] = [Value.slice none 0 0] from e1)).1
    subst e1
    exact ⟨b, [], l, q0, q2, .inl ⟨rfl, rfl, fun _ h => h.elim⟩, (fun _ h => by cases h), Nat.zero_le _, l0, l1⟩
  · have e1 := (List.cons.inj (show [c1] = [Value.slice (some a) len cap] from e1)).1
    subst e1
    obtain ⟨ab, ao, ap⟩ := a
    have hk : U.has Tryz.prog r bb ⟨ab, ao, ap⟩ 43 cap := by
      simp only [Cell.okWide, Cell.ok, Tryz.underlying27] at hc
      exact hc.2.2
    obtain ⟨-, hs, row, cells, hsh, -⟩ := hk
    have hs : ap = none := hs
    subst hs
    have hlt := shape_lt hsh
    have hlz : len ≤ zs.length := by rw [hz]; split <;> omega
    have hlen : (zs.take len).length = len := by rw [List.length_take]; omega
    refine ⟨b, zs.take len, l, q0, q2, .inr ⟨ab, ao, cap, by rw [hlen], by rw [hlen]; exact hl, hlt, fun j hj => ?_, fun h => h, fun _ h => h.elim⟩, ?_, ?_, l0, l1⟩
    · rw [hlen] at hj
      rw [← Addr.add_mid, hcell j (by omega), getD_take (by omega)]
    · intro y hy
      exact wf_u16 (hwf y (List.mem_of_mem_take hy))
    · rw [hlen]; unfold maxLen at hm; omega
end
set_option maxRecDepth 100000 in
/-- A draft, as it is handed in. -/
theorem draft_arg {H : Type} {enc : TypeId × Value → H} {U : World} {base : Nat} {sp : Nat → Bool} {held : Bool} {fuel bb : Nat} {v : Value} {x : DataW H × List MemPlace} (hv : Value.okWide Tryz.prog U .any bb 30 v) (h : DataW.trod enc Tryz.prog U base sp held fuel 30 v.cells.toList = some x) :
    ∃ (b : Bool) (bv : Value) (l : Int) (bits : List Int), DraftOk U bv bits l ∧ v = .agg #[.bool b, bv, .int .u32 l] := by
  obtain ⟨cs, rfl, hn, ts, h1, -, h2⟩ : ∃ cs, v = .agg cs ∧ cs.size = Tryz.prog.cellsOf 30 ∧ Row.okWide Tryz.prog U .any bb 30 cs := by
    simp only [Value.okWide, Tryz.underlying30] at hv
    exact hv
  rw [types30] at h1
  cases h1
  rw [cells30] at hn
  obtain ⟨lst⟩ := cs
  obtain ⟨c0, c1, c2, rfl⟩ := list3 (show lst.length = 3 by simpa using hn)
  have kC : Cell.okWide Tryz.prog U .any bb 27 c1 := by
    obtain ⟨u', k1, k2⟩ := h2 1 c1 (by simp)
    have : u' = 27 := Option.some.inj (k1.symm.trans (show ([4, 27, 28] : List TypeId)[1 % 3]? = some 27 from rfl))
    subst this
    exact k2
  obtain ⟨b, bits, l, rfl, rfl, hC⟩ := draft_of (h.trans rfl) kC
  exact ⟨b, c1, l, bits, hC, rfl⟩
set_option maxRecDepth 100000 in
theorem below_lifted (os : Os) (started : os.Started) (H : Type) (enc : TypeId × Value → H) :
    ReturnsInHanded {} Tryz.checked os 3 .any (Rows.chanceBelowSpec.pre6 enc Tryz.prog Tryz.f3 Rows.chanceBelowRow.domain false) (Rows.chanceBelowSpec.post enc Tryz.prog Tryz.f3 false true false false) := by
  refine returnsInHanded_of_change (C := Tryz.checked) own started (by kernel_rfl) Tryz.func3
    (ChangeSpec.witness6 (enc := enc) (C := Tryz.checked) false ⟨#[], #[.agg #[.int .u64 0], .int .i64 0, .agg #[.int .u64 0, .int .u64 0, .int .u64 0, .int .u64 0, .int .u64 0, .int .u64 0, .int .u64 0, .int .u64 0], .agg #[.bool false, .slice none 0 0, .int .u32 0]], []⟩ 8 (by kernel_rfl) (by kernel_rfl) (by kernel_rfl) (by kernel_rfl)) ?_
  intro U base args ds gs before hval0 hW hcnd _
  have hval : ∀ (j : Nat) t v, Tryz.f3.params[j]? = some t → args[j]? = some v → Value.okWide Tryz.prog U .any base t v := hval0
  have hW' := hW
  obtain ⟨p, q, hA0, hV, rfl, hfz, hnd⟩ := hW
  have hA : DataW.TrodAll enc Tryz.prog U 0 (fun _ => true) true Tryz.f3.params.toList args.toList ds p := hA0
  rw [Tryz.params3] at hA hval
  obtain ⟨v0, v1, v2, v3, d0, d1, d2, d3, p0, p1, p2, p3, rfl, rfl, rfl, h0, h1, h2, h3⟩ := trodAll_four hA
  obtain ⟨rfl, rfl⟩ := trodVars_none hV
  have h0' := h0
  have h1' := h1
  have h2' := h2
  have h3' := h3
  obtain ⟨m0, t0⟩ := h0'
  obtain ⟨m1, t1⟩ := h1'
  obtain ⟨m2, t2⟩ := h2'
  obtain ⟨m3, t3⟩ := h3'
  obtain ⟨s, hs0, hs1, rfl⟩ := chance_arg (hval 0 24 v0 rfl rfl)
  obtain ⟨n, hn0, hn1, rfl⟩ := int_arg (hval 1 3 v1 rfl rfl)
  obtain ⟨x, hx, rfl⟩ := wide_arg (hval 2 26 v2 rfl rfl)
  obtain ⟨b, bv, l, bits, hd, rfl⟩ := draft_arg (hval 3 30 v3 rfl rfl) t3
  obtain ⟨a0, a1, a2, a3, a4, a5, a6, a7, -, -, E0⟩ := words_of hx
  have lt0 : ∀ x ∈ p0, x.block < U.heap.size := DataW.trod_lt m0 _ _ _ t0
  have lt1 : ∀ x ∈ p1, x.block < U.heap.size := DataW.trod_lt m1 _ _ _ t1
  have lt2 : ∀ x ∈ p2, x.block < U.heap.size := DataW.trod_lt m2 _ _ _ t2
  have lt3 : ∀ x ∈ p3, x.block < U.heap.size := DataW.trod_lt m3 _ _ _ t3
  clear hA0 hval0
  rw [E0] at h2 hW' ⊢
  refine (below_law (w := U) (fun _ => works_c) s n hn0 hn1 hx E0 hd).mono fun e W' he => ?_
  obtain ⟨r, rfl, rfl, bel⟩ := he
  exact ⟨_, rfl, _, _, _, [], _, [], hW', trodAll_mk1 (shut_bool Tryz.underlying4 _), trodAll_cons_mk (Below.trod laidOut (by kernel_rfl) (of_decide_eq_true (by kernel_rfl)) h0 bel lt0) (trodAll_cons_mk (Below.trod laidOut (by kernel_rfl) (of_decide_eq_true (by kernel_rfl)) h1 bel lt1) (trodAll_cons_mk (Below.trod laidOut (by kernel_rfl) (of_decide_eq_true (by kernel_rfl)) h2 bel lt2) (trodAll_cons_mk (Below.trod laidOut (by kernel_rfl) (of_decide_eq_true (by kernel_rfl)) h3 bel lt3) trodAll_mk0))), rfl, bel.frame _, fun h => by cases h⟩
/-- The statement. -/
theorem below_holds : Rows.ChanceBelowSaid :=
  OpenClaim.holds_of_wide 3 Tryz.f3 rfl rfl rfl rfl rfl rfl rfl ⟨rfl, rfl, rfl, rfl, rfl⟩ rfl rfl rfl rfl rfl (by kernel_rfl) Tryz.func3 (by kernel_rfl)
    (of_decide_eq_true (by kernel_rfl)) (by unfold Func.isWrapper; first | (rw [if_pos (by decide +kernel)]; kernel_rfl) | (rw [if_neg (by decide +kernel)]; exact ⟨rfl, rfl⟩))
    (fun os started H enc _ => below_lifted os started H enc)
#print axioms below_holds
end Go.Proofs.YtfeapgpjchjphaaGreat
