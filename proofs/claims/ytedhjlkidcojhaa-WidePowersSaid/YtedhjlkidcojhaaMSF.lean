/-
  The loop of the law WidePowers.
-/
import Derived.Test.YtedhjlkidcojhaaMSE
set_option linter.all false
namespace Go.Proofs.Ytedhjlkidcojhaa
open Go Go.Rx Go.RowKit Go.Big
attribute [local instance] noAv
theorem pow_words (x n : Int) (hx : fit x) (h0 : -9223372036854775808 ≤ n) (h1 : n ≤ 9223372036854775807) : ∃ r e, fit r ∧ (∀ U, Calls Try.prog 10 #[W x, .int .i64 n] U (Gets (fun _ v => v = .tuple #[W r, .int .i64 e]) U)) ∧ (∀ U, Calls Try.prog 11 #[W x, .int .i64 n] U (Gets (fun _ v => v = .tuple #[W r, .int .i64 e]) U)) := by
  have hown := fun U => gives_gets (f_PowAll x n hx h0 h1) U
  have href : ∀ U, Calls Try.prog 11 #[W x, .int .i64 n] U (Gets (fun _ v => v = powV x n) U) := fun U => by
    unfold powV
    split
    · exact refPow_out hx ‹_›
    · obtain ⟨k, rfl⟩ := Int.eq_ofNat_of_zero_le (show 0 ≤ n by omega)
      exact refPow_in hx (by omega)
  have hp : ∃ r e, fit r ∧ powV x n = .tuple #[W r, .int .i64 e] := by
    unfold powV
    split
    · exact ⟨0, 2, by unfold fit P511; omega, rfl⟩
    · exact res_words _
  obtain ⟨r, e, hr, he⟩ := hp
  rw [he] at hown href
  exact ⟨r, e, hr, hown, href⟩
theorem root_words (x : Int) (hx : fit x) : ∃ r e, fit r ∧ (∀ U, Calls Try.prog 12 #[W x] U (Gets (fun _ v => v = .tuple #[W r, .int .i64 e]) U)) ∧ (∀ U, Calls Try.prog 13 #[W x] U (Gets (fun _ v => v = .tuple #[W r, .int .i64 e]) U)) := by
  by_cases h0 : x < 0
  · exact ⟨0, 2, by unfold fit P511; omega, fun U => gives_gets (f_RootN x hx h0) U, fun U => refRoot_neg hx h0⟩
  · obtain ⟨r, h1, h2⟩ := root_ex x.natAbs
    have hu := natAbs_un hx (by omega)
    have hrx : r ≤ x.natAbs := by
      rcases Nat.eq_zero_or_pos r with h | h
      · omega
      · have := Nat.le_mul_of_pos_left r h; omega
    refine ⟨r, 0, by unfold fit P511 at hx ⊢; omega, fun U => gives_gets (f_Root x hx (by omega) (by rw [hu]; exact h1) (by rw [hu]; exact h2)) U, fun U => refRoot_pos hx (by omega) (by omega) (by omega)⟩
/-- The cells of a pair in a row of six. -/
theorem pair_cells6 {U : World} {base g cap : Nat} {qs : List (Int × Int)} {k : Nat} {x y : Int} {x0 x1 x2 x3 x4 x5 x6 x7 y0 y1 y2 y3 y4 y5 y6 y7 : Int} (hown : U.ownsRow base 34 16 (.slice (some ⟨g, 0, none⟩) 6 cap) 6 (qs.flatMap cellsP)) (hl : qs.length = 6) (hk : k < 6) (hxy : qs.getD k (0, 0) = (x, y))
    (hx : W x = .agg #[.int .u64 x0, .int .u64 x1, .int .u64 x2, .int .u64 x3, .int .u64 x4, .int .u64 x5, .int .u64 x6, .int .u64 x7]) (hy : W y = .agg #[.int .u64 y0, .int .u64 y1, .int .u64 y2, .int .u64 y3, .int .u64 y4, .int .u64 y5, .int .u64 y6, .int .u64 y7]) : U.cell? ⟨g, k * 16, none⟩ = some (.int .u64 x0) ∧ U.cell? ⟨g, k * 16 + 1, none⟩ = some (.int .u64 x1) ∧ U.cell? ⟨g, k * 16 + 2, none⟩ = some (.int .u64 x2) ∧ U.cell? ⟨g, k * 16 + 3, none⟩ = some (.int .u64 x3) ∧ U.cell? ⟨g, k * 16 + 4, none⟩ = some (.int .u64 x4) ∧ U.cell? ⟨g, k * 16 + 5, none⟩ = some (.int .u64 x5) ∧ U.cell? ⟨g, k * 16 + 6, none⟩ = some (.int .u64 x6) ∧ U.cell? ⟨g, k * 16 + 7, none⟩ = some (.int .u64 x7) ∧ U.cell? ⟨g, k * 16 + 8, none⟩ = some (.int .u64 y0) ∧ U.cell? ⟨g, k * 16 + 9, none⟩ = some (.int .u64 y1) ∧ U.cell? ⟨g, k * 16 + 10, none⟩ = some (.int .u64 y2) ∧ U.cell? ⟨g, k * 16 + 11, none⟩ = some (.int .u64 y3) ∧ U.cell? ⟨g, k * 16 + 12, none⟩ = some (.int .u64 y4) ∧ U.cell? ⟨g, k * 16 + 13, none⟩ = some (.int .u64 y5) ∧ U.cell? ⟨g, k * 16 + 14, none⟩ = some (.int .u64 y6) ∧ U.cell? ⟨g, k * 16 + 15, none⟩ = some (.int .u64 y7) := by
  have hc : ∀ i, i < 16 → U.cell? ⟨g, k * 16 + i, none⟩ = (cellsP (x, y))[i]? := fun i hi => by
    rw [hown.cellAt _ (by omega), flat_get qs k i (by omega) hi, hxy]
  have e : cellsP (x, y) = [.int .u64 x0, .int .u64 x1, .int .u64 x2, .int .u64 x3, .int .u64 x4, .int .u64 x5, .int .u64 x6, .int .u64 x7, .int .u64 y0, .int .u64 y1, .int .u64 y2, .int .u64 y3, .int .u64 y4, .int .u64 y5, .int .u64 y6, .int .u64 y7] := by unfold cellsP; rw [W8_of hx, W8_of hy]; rfl
  rw [e] at hc
  exact ⟨(hc 0 (by decide)).trans rfl, (hc 1 (by decide)).trans rfl, (hc 2 (by decide)).trans rfl, (hc 3 (by decide)).trans rfl, (hc 4 (by decide)).trans rfl, (hc 5 (by decide)).trans rfl, (hc 6 (by decide)).trans rfl, (hc 7 (by decide)).trans rfl, (hc 8 (by decide)).trans rfl, (hc 9 (by decide)).trans rfl, (hc 10 (by decide)).trans rfl, (hc 11 (by decide)).trans rfl, (hc 12 (by decide)).trans rfl, (hc 13 (by decide)).trans rfl, (hc 14 (by decide)).trans rfl, (hc 15 (by decide)).trans rfl⟩
theorem stepB {W W1 : World} {B : Nat} {o : Obj} (k : W.heap[B]? = some o) (hb : Below W.heap.size W W1) (o' : Obj) : (W1.alloc o').heap[B]? = some o := by
  have hlt := (Array.getElem?_eq_some_iff.1 k).1
  have h1 := (hb.block B hlt).trans k
  exact (Below.heap_alloc W1 o' B (Array.getElem?_eq_some_iff.1 h1).1).trans h1
noncomputable def powersL : Code := ((Try.f3.body.bind findL).getD .skip)
end Go.Proofs.Ytedhjlkidcojhaa
