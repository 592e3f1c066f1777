/-
  The arguments of the laws, opened: drafts, and two wide integers with two drafts.
-/
import Derived.Test.YtaafimabgcnbaabGreatDoorMR
import Derived.Test.YtaafimabgcnbaabGreatDoorMJ
import Derived.ChangeSlices
set_option linter.all false
namespace Go.Proofs.YtaafimabgcnbaabGreatDoor
open Go Go.Rx Go.RowKit Go.Big
open Go.ChangeShapes Go.WideShapes Go.ChangeAt
attribute [local instance] noAv
theorem cells4 : Tryz.prog.cellsOf 4 = 1 := by kernel_rfl
theorem cells25 : Tryz.prog.cellsOf 25 = 1 := by kernel_rfl
theorem cells26 : Tryz.prog.cellsOf 26 = 1 := by kernel_rfl
theorem cells86 : Tryz.prog.cellsOf 70 = 1 := by kernel_rfl
theorem cells28 : Tryz.prog.cellsOf 28 = 3 := by kernel_rfl
theorem types28 : Tryz.prog.cellTypes Tryz.prog.depth 28 = some [4, 25, 26] := by kernel_rfl
theorem wf_u16 {n : Int} (h : (Lit.int .u16 n).wf = true) : 0 ≤ n ∧ n < 65536 := by
  have e1 : IntKind.u16.min = 0 := by decide
  have e2 : IntKind.u16.max = 65535 := by decide
  simp only [Lit.wf, Bool.and_eq_true, decide_eq_true_eq, e1, e2] at h
  omega
theorem wf_u32 {n : Int} (h : (Lit.int .u32 n).wf = true) : 0 ≤ n ∧ n < 4294967296 := by
  have e1 : IntKind.u32.min = 0 := by decide
  have e2 : IntKind.u32.max = 4294967295 := by decide
  simp only [Lit.wf, Bool.and_eq_true, decide_eq_true_eq, e1, e2] at h
  omega
theorem wf_i64 {n : Int} (h : (Lit.int .i64 n).wf = true) : -9223372036854775808 ≤ n ∧ n ≤ 9223372036854775807 := by
  have e1 : IntKind.i64.min = -9223372036854775808 := by decide
  have e2 : IntKind.i64.max = 9223372036854775807 := by decide
  simp only [Lit.wf, Bool.and_eq_true, decide_eq_true_eq, e1, e2] at h
  exact h
theorem shape_lt {U : World} {b : Nat} {z : TypeId × Nat} (h : U.shape? b = some z) : b < U.heap.size := by
  rcases Nat.lt_or_ge b U.heap.size with h' | h'
  · exact h'
  · simp [World.shape?, Array.getElem?_eq_none h'] at h
section
variable {H : Type} {enc : TypeId × Value → H} {U : World} {base : Nat} {sp : Nat → Bool} {held : Bool} {fuel : Nat}
theorem list3 {α : Type} {l : List α} (h : l.length = 3) : ∃ a b c, l = [a, b, c] := by
  match l, h with
  | [a, b, c], _ => exact ⟨a, b, c, rfl⟩
theorem list4 {α : Type} {l : List α} (h : l.length = 4) : ∃ a b c d, l = [a, b, c, d] := by
  match l, h with
  | [a, b, c, d], _ => exact ⟨a, b, c, d, rfl⟩
set_option maxRecDepth 100000 in
/-- A draft. -/
theorem draft_of {c0 c1 c2 : Value} {x : DataW H × List MemPlace} {r : Reach} {bb : Nat} (h : DataW.trod enc Tryz.prog U base sp held fuel 28 [c0, c1, c2] = some x) (hc : Cell.okWide Tryz.prog U r bb 25 c1) :
    ∃ b bits l, c0 = .bool b ∧ c2 = .int .u32 l ∧ DraftOk U c1 bits l := by
  obtain ⟨xs, n, -, -, -, hx, hf⟩ := DataW.trod_struct Tryz.underlying28 h
  obtain ⟨y0, y1, y2, rfl⟩ := list3 hx
  have f0 : DataW.trod enc Tryz.prog U base sp held n 4 (([c0, c1, c2].drop 0).take (Tryz.prog.cellsOf 4)) = some y0 := hf 0 _ rfl
  have f1 : DataW.trod enc Tryz.prog U base sp held n 25 (([c0, c1, c2].drop 1).take (Tryz.prog.cellsOf 25)) = some y1 := hf 1 _ rfl
  have f2 : DataW.trod enc Tryz.prog U base sp held n 26 (([c0, c1, c2].drop 2).take (Tryz.prog.cellsOf 26)) = some y2 := hf 2 _ rfl
  clear hf h hx
  rw [cells4] at f0
  rw [cells25] at f1
  rw [cells26] at f2
  obtain ⟨b, e0, -⟩ := DataW.trod_bool Tryz.underlying4 (f0.trans rfl)
  obtain ⟨l, e2, -, w2⟩ := DataW.trod_int Tryz.underlying26 (f2.trans rfl)
  have q0 := (List.cons.inj (show [c0] = [Value.bool b] from e0)).1
  have q2 := (List.cons.inj (show [c2] = [Value.int .u32 l] from e2)).1
  obtain ⟨l0, l1⟩ := wf_u32 w2
  rcases open_ints Tryz.underlying25 Tryz.underlying70 cells86 (f1.trans rfl) with ⟨e1, -⟩ | ⟨a, len, cap, zs, e1, -, hl, hm, hz, -, hcell, hwf⟩
  · have e1 := (List.cons.inj (show [c1] = [Value.slice none 0 0] from e1)).1
    subst e1
    exact ⟨b, [], l, q0, q2, .inl ⟨rfl, rfl, fun _ h => h.elim⟩, (fun _ h => by cases h), Nat.zero_le _, l0, l1⟩
  · have e1 := (List.cons.inj (show [c1] = [Value.slice (some a) len cap] from e1)).1
    subst e1
    obtain ⟨ab, ao, ap⟩ := a
    have hk : U.has Tryz.prog r bb ⟨ab, ao, ap⟩ 70 cap := by
      simp only [Cell.okWide, Cell.ok, Tryz.underlying25] at hc
      exact hc.2.2
    obtain ⟨-, hs, row, cells, hsh, -⟩ := hk
    have hs : ap = none := hs
    subst hs
    have hlt := shape_lt hsh
    have hlz : len ≤ zs.length := by rw [hz]; split <;> omega
    have hlen : (zs.take len).length = len := by rw [List.length_take]; omega
    refine ⟨b, zs.take len, l, q0, q2, .inr ⟨ab, ao, cap, by rw [hlen], by rw [hlen]; exact hl, hlt, fun j hj => ?_, fun h => h, fun _ h => h.elim⟩, ?_, ?_, l0, l1⟩
    · rw [hlen] at hj
      rw [← Addr.add_mid, hcell j (by omega), getD_take (by omega)]
    · intro y hy
      exact wf_u16 (hwf y (List.mem_of_mem_take hy))
    · rw [hlen]; unfold maxLen at hm; omega
end
set_option maxRecDepth 100000 in
theorem int_arg {U : World} {bb : Nat} {v : Value} (hv : Value.okWide Tryz.prog U .any bb 3 v) : ∃ n : Int, -9223372036854775808 ≤ n ∧ n ≤ 9223372036854775807 ∧ v = .int .i64 n := by
  have e1 : IntKind.i64.min = -9223372036854775808 := by decide
  have e2 : IntKind.i64.max = 9223372036854775807 := by decide
  have hv' : Cell.ok Tryz.prog U .any bb 3 v := by simpa only [Value.okWide, Cell.okWide, Tryz.underlying3] using hv
  unfold Cell.ok at hv'
  rw [Tryz.underlying3] at hv'
  cases v with
  | int k n =>
    obtain ⟨rfl, h1, h2⟩ := hv'
    rw [e1] at h1; rw [e2] at h2
    exact ⟨n, h1, h2, rfl⟩
  | _ => exact hv'.elim
theorem list22 {α : Type} {l : List α} (h : l.length = 22) : ∃ a b c d e f g i j k m n o p q r s t u v w x, l = [a, b, c, d, e, f, g, i, j, k, m, n, o, p, q, r, s, t, u, v, w, x] := by
  match l, h with
  | [a, b, c, d, e, f, g, i, j, k, m, n, o, p, q, r, s, t, u, v, w, x], _ => exact ⟨a, b, c, d, e, f, g, i, j, k, m, n, o, p, q, r, s, t, u, v, w, x, rfl⟩
end Go.Proofs.YtaafimabgcnbaabGreatDoor
