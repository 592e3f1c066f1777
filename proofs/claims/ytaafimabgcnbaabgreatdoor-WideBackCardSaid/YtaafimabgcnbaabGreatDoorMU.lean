/-
  A magnitude, shifted to the left: the loop.
  A magnitude, shifted to the left, whole.
  A magnitude, shifted to the right: the loop.
  A magnitude, shifted to the right, whole.
-/
import Derived.Test.YtaafimabgcnbaabGreatDoorMT
import Derived.StillTailTactics
set_option linter.all false
namespace Go.Proofs.YtaafimabgcnbaabGreatDoor
open Go Go.Rx Go.RowKit Go.Big
attribute [local instance] noAv
/-- What the word below place k hands up. -/
def upper (ms : List Int) (p : Nat) : Nat → Int
  | 0 => 0
  | k + 1 => ms.getD k 0 / (2 : Int) ^ (64 - p)
structure LeftK (ms : List Int) (W p k : Nat) (rs : List Int) : Prop where
  len : rs.length = 8
  good : wgood rs
  zero : ∀ j, W + k ≤ j → rs.getD j 0 = 0
  sum : wval rs + upper ms p k * pw (2 * (W + k)) = wval (ms.take k) * (2 : Int) ^ p * pw (2 * W)
theorem upper_lt {ms : List Int} (hg : wgood ms) {p : Nat} (hp : p ≤ 63) (k : Nat) : 0 ≤ upper ms p k ∧ upper ms p k < (2 : Int) ^ p := by
  obtain ⟨h1, h2, h3⟩ := pow_parts hp
  cases k with
  | zero => exact ⟨Int.le_refl _, by show (0 : Int) < _; omega⟩
  | succ k =>
    have hx := wgood_get hg k
    exact ⟨Int.ediv_nonneg hx.1 (by omega), Int.ediv_lt_of_lt_mul (by omega) (by rw [h3]; exact hx.2)⟩
/-- One word, shifted: what stays and what goes up. -/
theorem shift_word {x : Int} {p : Nat} (hp : p ≤ 63) (hx : 0 ≤ x ∧ x < 18446744073709551616) : ∃ l, IntKind.u64.wrap (x * (2 : Int) ^ p) = l * (2 : Int) ^ p ∧ 0 ≤ l ∧ l * (2 : Int) ^ p + (2 : Int) ^ p ≤ 18446744073709551616 ∧ x * (2 : Int) ^ p = x / (2 : Int) ^ (64 - p) * 18446744073709551616 + l * (2 : Int) ^ p := by
  obtain ⟨h1, h2, h3⟩ := pow_parts hp
  refine ⟨x % (2 : Int) ^ (64 - p), ?_, Int.emod_nonneg _ (by omega), ?_, ?_⟩
  all_goals have d3 := Int.emod_nonneg x (show (2 : Int) ^ (64 - p) ≠ 0 by omega)
  all_goals have d4 := Int.emod_lt_of_pos x (show 0 < (2 : Int) ^ (64 - p) by omega)
  all_goals have d5 := Int.mul_ediv_add_emod x ((2 : Int) ^ (64 - p))
  all_goals generalize (2 : Int) ^ (64 - p) = R at *
  all_goals generalize (2 : Int) ^ p = P at *
  · have d6 : x * P = 18446744073709551616 * (x / R) + x % R * P := by
      rw [← h3]
      conv => lhs; rw [← d5]
      rw [Int.add_mul, Int.mul_comm R, Int.mul_assoc, Int.mul_comm R P, Int.mul_comm (x / R)]
    have d7 : 0 ≤ x % R * P := Int.mul_nonneg d3 (by omega)
    have d8 : x % R * P < 18446744073709551616 := by
      rw [← h3, Int.mul_comm P R]
      exact Int.mul_lt_mul_of_pos_right d4 (by omega)
    rw [IntKind.wrap_u64, d6]
    generalize x % R * P = z at *
    omega
  · have d8 : (x % R + 1) * P ≤ R * P := Int.mul_le_mul_of_nonneg_right (by omega) (by omega)
    rw [Int.mul_comm R, h3, Int.add_mul, Int.one_mul] at d8
    exact d8
  · conv => lhs; rw [← d5]
    rw [← h3, Int.add_mul, Int.mul_comm R, Int.mul_assoc, Int.mul_comm R P]
theorem LeftK.step {ms rs : List Int} {W p k : Nat} (h : LeftK ms W p k rs) (hp : p ≤ 63) (hW : W + k < 8) (hl : ms.length = 8) (hg : wgood ms) {l : Int} (hl0 : 0 ≤ l) (hl1 : l * (2 : Int) ^ p + (2 : Int) ^ p ≤ 18446744073709551616) (hx : ms.getD k 0 * (2 : Int) ^ p = ms.getD k 0 / (2 : Int) ^ (64 - p) * 18446744073709551616 + l * (2 : Int) ^ p) :
    LeftK ms W p (k + 1) (rs.set (W + k) (l * (2 : Int) ^ p + upper ms p k)) := by
  obtain ⟨h1, h2, h3⟩ := pow_parts hp
  have hu := upper_lt hg hp k
  have hl2 : 0 ≤ l * (2 : Int) ^ p := Int.mul_nonneg hl0 (by omega)
  refine ⟨by simpa using h.len, wgood_set h.good _ (by omega), fun j hj => ?_, ?_⟩
  · have := h.zero j (by omega)
    rw [List.getD_eq_getElem?_getD] at this ⊢
    rw [List.getElem?_set_ne (by omega)]
    exact this
  · have hs := h.sum
    rw [wval_set _ _ _ (by rw [h.len]; exact hW), h.zero (W + k) (Nat.le_refl _), Int.sub_zero, wval_take_succ ms k (by omega)]
    show _ + ms.getD k 0 / (2 : Int) ^ (64 - p) * pw (2 * (W + (k + 1))) = _
    rw [show 2 * (W + (k + 1)) = 2 + 2 * (W + k) by omega, pw_add, show pw 2 = 18446744073709551616 by decide]
    have hpp : pw (2 * (W + k)) = pw (2 * k) * pw (2 * W) := by rw [← pw_add]; congr 1; omega
    have e : (wval (ms.take k) + ms.getD k 0 * pw (2 * k)) * (2 : Int) ^ p * pw (2 * W) = wval (ms.take k) * (2 : Int) ^ p * pw (2 * W) + ms.getD k 0 * (2 : Int) ^ p * pw (2 * (W + k)) := by
      rw [hpp, Int.add_mul, Int.add_mul, Int.mul_assoc (ms.getD k 0), Int.mul_comm (pw (2 * k)), ← Int.mul_assoc (ms.getD k 0), Int.mul_assoc _ (pw (2 * k))]
    rw [e, ← hs, hx]
    generalize pw (2 * (W + k)) = q
    generalize ms.getD k 0 / (2 : Int) ^ (64 - p) = c
    generalize l * (2 : Int) ^ p = v
    rw [Int.add_mul, Int.add_mul, Int.mul_assoc c]
    omega
noncomputable def leftL : Code := ((Tryz.f76.body.bind (findB 0)).getD .skip)
set_option maxHeartbeats 4000000 in
set_option maxRecDepth 100000 in
theorem left_loop {C A W p : Nat} {ms : List Int} (hW : W ≤ 8) (hp : p ≤ 63) (hms : wgood ms) (hml : ms.length = 8)
    {w0 w : World} (hA : A < C) (hm : ∀ j, j < 8 → w0.cell? ⟨A, j, none⟩ = some (.int .u64 (ms.getD j 0))) (hC0 : Cells8 C (List.replicate 8 0) w0 w)
    (c0 c1 c3 c8 c9 c10 c11 c12 c43 u13 u14 u15 u16 u17 u18 u19 u20 u21 u22 u23 u24 u25 u26 u27 u28 u29 u30 u31 u32 u33 u34 u35 u36 u37 u38 u39 u40 u41 u42 : Value) (Q : Exit → Act → World → Prop)
    (hQ : ∀ (rs : List Int) (k : Nat) (u7 u13 u14 u15 u16 u17 u18 u19 u20 u21 u22 u23 u24 u25 u26 u27 u28 u29 u30 u31 u32 u33 u34 u35 u36 u37 u38 u39 u40 u41 u42 : Value) (w1 : World), W + k = 8 → LeftK ms W p k rs → Cells8 C rs w0 w1 → Q (.exit 0) ⟨(List.toArray (c0 :: c1 :: (.pointer (some ⟨A, 0, none⟩)) :: c3 :: (.pointer (some ⟨C, 0, none⟩)) :: (.int .i64 (W : Nat)) :: (.int .i64 (p : Nat)) :: u7 :: c8 :: c9 :: c10 :: c11 :: c12 :: u13 :: u14 :: u15 :: u16 :: u17 :: u18 :: u19 :: u20 :: u21 :: u22 :: u23 :: u24 :: u25 :: u26 :: u27 :: u28 :: u29 :: u30 :: u31 :: u32 :: u33 :: u34 :: u35 :: u36 :: u37 :: u38 :: u39 :: u40 :: u41 :: u42 :: c43 :: [])), []⟩ w1) :
    Code.wp Tryz.prog leftL Q ⟨(List.toArray (c0 :: c1 :: (.pointer (some ⟨A, 0, none⟩)) :: c3 :: (.pointer (some ⟨C, 0, none⟩)) :: (.int .i64 (W : Nat)) :: (.int .i64 (p : Nat)) :: (.int .i64 (W : Nat)) :: c8 :: c9 :: c10 :: c11 :: c12 :: u13 :: u14 :: u15 :: u16 :: u17 :: u18 :: u19 :: u20 :: u21 :: u22 :: u23 :: u24 :: u25 :: u26 :: u27 :: u28 :: u29 :: u30 :: u31 :: u32 :: u33 :: u34 :: u35 :: u36 :: u37 :: u38 :: u39 :: u40 :: u41 :: u42 :: c43 :: [])), []⟩ w := by
  conv => arg 2; whnf
  go_loopw [7] (fun a w1 => ∃ (k i : Nat) (rs : List Int), a = .int .i64 i ∧ i = W + k ∧ i ≤ 8 ∧ LeftK ms W p k rs ∧ Cells8 C rs w0 w1) (fun a _ => 8 - (intOf a).toNat)
  case atStart =>
    refine ⟨0, W, List.replicate 8 0, rfl, rfl, hW, ⟨rfl, fun x hx => by rw [List.eq_of_mem_replicate hx]; decide, fun j _ => by rw [List.getD_eq_getElem?_getD, List.getElem?_replicate]; split <;> rfl, ?_⟩, hC0⟩
    rw [wval_zero, List.take_zero, show wval [] = 0 from rfl, show upper ms p 0 = 0 from rfl]
    simp
  case round =>
    obtain ⟨k, i, rs, rfl, hik, hi8, hd, hc⟩ := hrel
    have hi0 : (0 : Int) ≤ (i : Int) := by omega
    have hp0 : (0 : Int) ≤ (p : Int) := by omega
    have hp1 : (p : Int) ≤ 63 := by omega
    by_cases h8 : i = 8
    · subst h8
      clear hms hml hm hC0
      go_wp2
      exact hQ _ _ _ _ _ _ _ _ _ _ _ _ _ _ _ _ _ _ _ _ _ _ _ _ _ _ _ _ _ _ _ _ _ _ hik.symm hd hc
    · have hi8' : (i : Int) < 8 := by omega
      have hek : (i : Int) - (W : Int) = (k : Int) := by omega
      have hk0 : (0 : Int) ≤ (k : Int) := by omega
      have hk8 : (k : Int) < 8 := by omega
      have hx := wgood_get hms k
      obtain ⟨l, e1, l0, l1, l2⟩ := shift_word hp hx
      have hst := hd.step hp (by omega) hml hms l0 l1 l2
      rw [← hik] at hst
      have hcell : wr.cell? ⟨A, k, none⟩ = some (.int .u64 (ms.getD k 0)) := (hc.bel.cell (p := ⟨A, k, none⟩) hA).trans (hm k (by omega))
      have hfz : wr.frozen? ⟨C, i, none⟩ = false := frozenOf hc.cells
      have hcs : wr.cell? ⟨C, i, none⟩ = some (.int .u64 (rs.getD i 0)) := by rw [cellOf hc.cells]; exact col_words (by rw [hd.len]; omega)
      by_cases hk : k = 0
      · subst hk
        obtain rfl : i = W := by omega
        rw [show upper ms p 0 = 0 from rfl, Int.add_zero] at hst
        have hfin : ∃ (k j : Nat) (rs : List Int), Value.int .i64 ((i : Int) + 1) = .int .i64 j ∧ j = i + k ∧ j ≤ 8 ∧ LeftK ms i p k rs ∧ Cells8 C rs w0 (wr.setCell ⟨C, i, none⟩ (.int .u64 (l * (2 : Int) ^ p))) := by
          refine ⟨1, i + 1, _, rfl, rfl, by omega, hst, ⟨hc.bel.setCell (p := ⟨C, i, none⟩) (Nat.le_refl C) _, ?_⟩⟩
          rw [heap_setCell_same _ C i _ 59 _ hc.cells]
          simp [List.map_set]
        clear hst hm hC0 hms hd hc hik hek l2
        have hek : (i : Int) - (i : Int) = 0 := by omega
        generalize ms.getD 0 0 = x at *
        generalize l * (2 : Int) ^ p = v at *
        go_wp2
        go_roundw
        case rel => exact hfin
        case measure => simp [intOf]; omega
      · obtain ⟨k', rfl⟩ : ∃ k', k = k' + 1 := ⟨k - 1, by omega⟩
        have hiW : (W : Int) < (i : Int) := by omega
        have hek' : (i : Int) - (W : Int) - 1 = (k' : Int) := by omega
        have hk1 : (0 : Int) ≤ (k' : Int) := by omega
        have hk2 : (k' : Int) < 8 := by omega
        have v1 : IntKind.i64.wrap ((k' : Int) + 1) = (k' : Int) + 1 := by rw [IntKind.wrap_i64]; omega
        have v2 : IntKind.i64.wrap (k' : Int) = (k' : Int) := by rw [IntKind.wrap_i64]; omega
        have v3 : IntKind.i64.wrap (64 - (p : Int)) = ((64 - p : Nat) : Int) := by rw [IntKind.wrap_i64]; omega
        have v4 : IntKind.u64.wrap (ms.getD k' 0 / (2 : Int) ^ (64 - p)) = ms.getD k' 0 / (2 : Int) ^ (64 - p) := by
          have h2 := upper_lt hms hp (k' + 1)
          have h3 := pow_parts hp
          have h4 : (2 : Int) ^ p ≤ 18446744073709551616 := by have h5 : 0 ≤ l * (2 : Int) ^ p := Int.mul_nonneg l0 (by omega)
                                                               omega
          have h6 : ms.getD k' 0 / (2 : Int) ^ (64 - p) = upper ms p (k' + 1) := rfl
          rw [IntKind.wrap_u64]
          omega
        have hcell' : wr.cell? ⟨A, k', none⟩ = some (.int .u64 (ms.getD k' 0)) := (hc.bel.cell (p := ⟨A, k', none⟩) hA).trans (hm k' (by omega))
        have hu := upper_lt hms hp (k' + 1)
        have hy := wgood_get hms k'
        have hor : bits .or .u64 (l * (2 : Int) ^ p) (ms.getD k' 0 / (2 : Int) ^ (64 - p)) = l * (2 : Int) ^ p + upper ms p (k' + 1) := or_parts hp l0 (by have := (pow_parts hp).1; omega) hu.1 hu.2
        have c1 : (wr.setCell ⟨C, i, none⟩ (.int .u64 (l * (2 : Int) ^ p))).drew.heap[C]? = some (.cells ((rs.set i (l * (2 : Int) ^ p)).map (Value.int .u64)).toArray 59) := by
          show (wr.setCell ⟨C, i, none⟩ (.int .u64 (l * (2 : Int) ^ p))).heap[C]? = _
          rw [heap_setCell_same _ C i _ 59 _ hc.cells]
          simp [List.map_set]
        have c2 : Below C w0 (wr.setCell ⟨C, i, none⟩ (.int .u64 (l * (2 : Int) ^ p))).drew := (hc.bel.setCell (p := ⟨C, i, none⟩) (Nat.le_refl C) _).drew
        have g1 : (wr.setCell ⟨C, i, none⟩ (.int .u64 (l * (2 : Int) ^ p))).drew.cell? ⟨C, i, none⟩ = some (.int .u64 (l * (2 : Int) ^ p)) := by
          rw [cellOf c1, col_words (by rw [List.length_set, hd.len]; omega), List.getD_eq_getElem?_getD, List.getElem?_set_self (by rw [hd.len]; omega)]
          rfl
        have g2 : (wr.setCell ⟨C, i, none⟩ (.int .u64 (l * (2 : Int) ^ p))).drew.cell? ⟨A, k', none⟩ = some (.int .u64 (ms.getD k' 0)) := (c2.cell (p := ⟨A, k', none⟩) hA).trans (hm k' (by omega))
        have g3 : (wr.setCell ⟨C, i, none⟩ (.int .u64 (l * (2 : Int) ^ p))).drew.frozen? ⟨C, i, none⟩ = false := frozenOf c1
        have hfin : ∃ (k j : Nat) (rs : List Int), Value.int .i64 ((i : Int) + 1) = .int .i64 j ∧ j = W + k ∧ j ≤ 8 ∧ LeftK ms W p k rs ∧ Cells8 C rs w0 ((wr.setCell ⟨C, i, none⟩ (.int .u64 (l * (2 : Int) ^ p))).drew.setCell ⟨C, i, none⟩ (.int .u64 (l * (2 : Int) ^ p + upper ms p (k' + 1)))) := by
          refine ⟨k' + 1 + 1, i + 1, _, rfl, by omega, by omega, hst, ⟨c2.setCell (p := ⟨C, i, none⟩) (Nat.le_refl C) _, ?_⟩⟩
          rw [heap_setCell_same _ C i _ 59 _ c1]
          simp [List.map_set]
        have f1 : (wr.setCell ⟨C, i, none⟩ (.int .u64 (l * (2 : Int) ^ p))).cell? ⟨C, i, none⟩ = some (.int .u64 (l * (2 : Int) ^ p)) := g1
        have f2 : (wr.setCell ⟨C, i, none⟩ (.int .u64 (l * (2 : Int) ^ p))).cell? ⟨A, k', none⟩ = some (.int .u64 (ms.getD k' 0)) := g2
        have f3 : (wr.setCell ⟨C, i, none⟩ (.int .u64 (l * (2 : Int) ^ p))).frozen? ⟨C, i, none⟩ = false := g3
        clear c1 c2
        clear hst hm hC0 hms hd hc hu hik l2 hk0 hk8
        generalize upper ms p (k' + 1) = up at *
        generalize ms.getD (k' + 1) 0 = x at *
        generalize ms.getD k' 0 = y at *
        generalize l * (2 : Int) ^ p = v at *
        go_wp2
        generalize wr.setCell ⟨C, i, none⟩ (.int .u64 v) = w1 at *
        go_still_tail 14, (by kernel_rfl)
        change wpList _ _ _ _ _ w1.drew
        generalize w1.drew = w2 at *
        go_wp2
        go_roundw
        case rel => exact hfin
        case measure => simp [intOf]; omega
end Go.Proofs.YtaafimabgcnbaabGreatDoor
namespace Go.Proofs.YtaafimabgcnbaabGreatDoor
open Go Go.Rx Go.RowKit Go.Big
attribute [local instance] noAv
/-- The words ms times 2^(64 W + p), and what goes beyond 2^512. -/
def LeftR (ms : List Int) (W p : Nat) (r : Value) : Prop := ∃ (rs : List Int) (k : Nat), W + k = 8 ∧ rs.length = 8 ∧ wgood rs ∧ wval rs + upper ms p k * pw 16 = wval (ms.take k) * (2 : Int) ^ p * pw (2 * W) ∧ r = .agg (rs.map (Value.int .u64)).toArray
set_option maxHeartbeats 4000000 in
set_option maxRecDepth 100000 in
theorem left_c {w : World} {m0 m1 m2 m3 m4 m5 m6 m7 : Int} {N W p : Nat} (hW : W ≤ 8) (hp : p ≤ 63) (hN : N = 64 * W + p) (hms : wgood [m0, m1, m2, m3, m4, m5, m6, m7]) :
    Calls Tryz.prog 76 #[.agg #[.int .u64 m0, .int .u64 m1, .int .u64 m2, .int .u64 m3, .int .u64 m4, .int .u64 m5, .int .u64 m6, .int .u64 m7], .int .i64 N] w (Gets (fun _ r => LeftR [m0, m1, m2, m3, m4, m5, m6, m7] W p r) w) := by
  have hN0 : (0 : Int) ≤ (N : Int) := by omega
  have hN1 : (N : Int) ≤ 575 := by omega
  have q1 : (N : Int).tdiv 64 = (W : Int) := by rw [Int.tdiv_eq_ediv_of_nonneg hN0]; omega
  have q2 : (N : Int).tmod 64 = (p : Int) := by rw [Int.tmod_eq_emod_of_nonneg hN0]; omega
  have q3 : (N : Int) / 64 = (W : Int) := by omega
  have q4 : (N : Int) % 64 = (p : Int) := by omega
  have v1 : IntKind.i64.wrap (W : Int) = W := by rw [IntKind.wrap_i64]; omega
  have v2 : IntKind.i64.wrap (p : Int) = p := by rw [IntKind.wrap_i64]; omega
  obtain ⟨k1, k2⟩ := heap2 w (.cells #[.int .u64 m0, .int .u64 m1, .int .u64 m2, .int .u64 m3, .int .u64 m4, .int .u64 m5, .int .u64 m6, .int .u64 m7] 59) (.cells #[.int .u64 0, .int .u64 0, .int .u64 0, .int .u64 0, .int .u64 0, .int .u64 0, .int .u64 0, .int .u64 0] 59)
  have b2 : Below w.heap.size w ((w.alloc (.cells #[.int .u64 m0, .int .u64 m1, .int .u64 m2, .int .u64 m3, .int .u64 m4, .int .u64 m5, .int .u64 m6, .int .u64 m7] 59)).alloc (.cells #[.int .u64 0, .int .u64 0, .int .u64 0, .int .u64 0, .int .u64 0, .int .u64 0, .int .u64 0, .int .u64 0] 59)) := ((Below.refl _ w).alloc (Nat.le_refl _) _).alloc (by simp) _
  have hm : ∀ j, j < 8 → ((w.alloc (.cells #[.int .u64 m0, .int .u64 m1, .int .u64 m2, .int .u64 m3, .int .u64 m4, .int .u64 m5, .int .u64 m6, .int .u64 m7] 59)).alloc (.cells #[.int .u64 0, .int .u64 0, .int .u64 0, .int .u64 0, .int .u64 0, .int .u64 0, .int .u64 0, .int .u64 0] 59)).cell? ⟨w.heap.size, j, none⟩ = some (.int .u64 ([m0, m1, m2, m3, m4, m5, m6, m7].getD j 0)) := fun j hj => by
    rw [cellOf k1]; exact col_words (l := [m0, m1, m2, m3, m4, m5, m6, m7]) hj
  have hc0 : Cells8 (w.heap.size + 1) (List.replicate 8 0) ((w.alloc (.cells #[.int .u64 m0, .int .u64 m1, .int .u64 m2, .int .u64 m3, .int .u64 m4, .int .u64 m5, .int .u64 m6, .int .u64 m7] 59)).alloc (.cells #[.int .u64 0, .int .u64 0, .int .u64 0, .int .u64 0, .int .u64 0, .int .u64 0, .int .u64 0, .int .u64 0] 59)) ((w.alloc (.cells #[.int .u64 m0, .int .u64 m1, .int .u64 m2, .int .u64 m3, .int .u64 m4, .int .u64 m5, .int .u64 m6, .int .u64 m7] 59)).alloc (.cells #[.int .u64 0, .int .u64 0, .int .u64 0, .int .u64 0, .int .u64 0, .int .u64 0, .int .u64 0, .int .u64 0] 59)) := ⟨Below.refl _ _, k2⟩
  have Hm := Lib.hid hm
  have B2 := Lib.hid b2
  have HN := Lib.hid hN
  clear hm k1 k2 b2 hN
  go_enter Tryz.func76, Tryz.ntmps76
  go_wp2
  refine left_loop hW hp hms rfl (show w.heap.size < w.heap.size + 1 by omega) Hm.out hc0 _ _ _ _ _ _ _ _ _ _ _ _ _ _ _ _ _ _ _ _ _ _ _ _ _ _ _ _ _ _ _ _ _ _ _ _ _ _ _ _ (fun rs k u7 u13 u14 u15 u16 u17 u18 u19 u20 u21 u22 u23 u24 u25 u26 u27 u28 u29 u30 u31 u32 u33 u34 u35 u36 u37 u38 u39 u40 u41 u42 W1 hk hd hc => ?_)
  have hl := hd.len
  have hs := hd.sum
  have hg := hd.good
  have b1 := B2.out
  have hbs : w.heap.size + 1 ≤ ((w.alloc (.cells #[.int .u64 m0, .int .u64 m1, .int .u64 m2, .int .u64 m3, .int .u64 m4, .int .u64 m5, .int .u64 m6, .int .u64 m7] 59)).alloc (.cells #[.int .u64 0, .int .u64 0, .int .u64 0, .int .u64 0, .int .u64 0, .int .u64 0, .int .u64 0, .int .u64 0] 59)).heap.size := b1.size |> fun h => by simp
  obtain ⟨a0, a1, a2, a3, a4, a5, a6, a7, rfl⟩ := list8i hl
  have hfin : LeftR [m0, m1, m2, m3, m4, m5, m6, m7] W p (.agg #[.int .u64 a0, .int .u64 a1, .int .u64 a2, .int .u64 a3, .int .u64 a4, .int .u64 a5, .int .u64 a6, .int .u64 a7]) := ⟨_, k, hk, hl, hg, by rw [← hs, show 2 * (W + k) = 16 by omega], rfl⟩
  have f3 : W1.heap[w.heap.size + 1]? = some (.cells #[.int .u64 a0, .int .u64 a1, .int .u64 a2, .int .u64 a3, .int .u64 a4, .int .u64 a5, .int .u64 a6, .int .u64 a7] 59) := hc.cells
  have bf : Below w.heap.size w W1 := b1.trans (hc.bel.mono (by omega))
  have fl : ∀ j, W1.frozen? ⟨w.heap.size + 1, j, none⟩ = false := fun j => frozenOf f3
  obtain ⟨y0, y1, y2, y3, y4, y5, y6, y7⟩ : W1.cell? ⟨w.heap.size + 1, 0, none⟩ = some (.int .u64 a0) ∧ W1.cell? ⟨w.heap.size + 1, 1, none⟩ = some (.int .u64 a1) ∧ W1.cell? ⟨w.heap.size + 1, 2, none⟩ = some (.int .u64 a2) ∧ W1.cell? ⟨w.heap.size + 1, 3, none⟩ = some (.int .u64 a3) ∧ W1.cell? ⟨w.heap.size + 1, 4, none⟩ = some (.int .u64 a4) ∧ W1.cell? ⟨w.heap.size + 1, 5, none⟩ = some (.int .u64 a5) ∧ W1.cell? ⟨w.heap.size + 1, 6, none⟩ = some (.int .u64 a6) ∧ W1.cell? ⟨w.heap.size + 1, 7, none⟩ = some (.int .u64 a7) := ⟨(cellOf (j := 0) f3).trans rfl, (cellOf (j := 1) f3).trans rfl, (cellOf (j := 2) f3).trans rfl, (cellOf (j := 3) f3).trans rfl, (cellOf (j := 4) f3).trans rfl, (cellOf (j := 5) f3).trans rfl, (cellOf (j := 6) f3).trans rfl, (cellOf (j := 7) f3).trans rfl⟩
  have hsz : w.heap.size + 1 < W1.heap.size := (Array.getElem?_eq_some_iff.1 f3).1
  clear f3 hs hd hc hc0 Hm hms b1 B2 hbs hk
  go_wp2
  exact bodyPost_ret (v := .agg #[.int .u64 a0, .int .u64 a1, .int .u64 a2, .int .u64 a3, .int .u64 a4, .int .u64 a5, .int .u64 a6, .int .u64 a7]) (by simp [results, Tryz.results76, go_sem, y0, y1, y2, y3, y4, y5, y6, y7, hsz]) rfl ⟨_, rfl, hfin, below_set8 bf (by omega) _ _ _ _ _ _ _ _⟩
#print axioms left_c
end Go.Proofs.YtaafimabgcnbaabGreatDoor
namespace Go.Proofs.YtaafimabgcnbaabGreatDoor
open Go Go.Rx Go.RowKit Go.Big
attribute [local instance] noAv
structure RightK (ms : List Int) (W p k : Nat) (rs : List Int) : Prop where
  len : rs.length = 8
  good : wgood rs
  zero : ∀ j, k ≤ j → rs.getD j 0 = 0
  sum : wval rs * (2 : Int) ^ p + ms.getD W 0 % (2 : Int) ^ p = wval ((ms.drop W).take k) + ms.getD (W + k) 0 % (2 : Int) ^ p * pw (2 * k)
/-- The part of the word above that comes down. -/
theorem down_word {y : Int} {p : Nat} (hp : p ≤ 63) (hy : 0 ≤ y ∧ y < 18446744073709551616) : IntKind.u64.wrap (y * (2 : Int) ^ (64 - p)) = y % (2 : Int) ^ p * (2 : Int) ^ (64 - p) ∧ 0 ≤ y % (2 : Int) ^ p * (2 : Int) ^ (64 - p) ∧ y % (2 : Int) ^ p * (2 : Int) ^ (64 - p) + (2 : Int) ^ (64 - p) ≤ 18446744073709551616 := by
  obtain ⟨h1, h2, h3⟩ := pow_parts hp
  have d3 := Int.emod_nonneg y (show (2 : Int) ^ p ≠ 0 by omega)
  have d4 := Int.emod_lt_of_pos y (show 0 < (2 : Int) ^ p by omega)
  have d5 := Int.mul_ediv_add_emod y ((2 : Int) ^ p)
  generalize (2 : Int) ^ (64 - p) = R at *
  generalize (2 : Int) ^ p = P at *
  have d6 : y * R = 18446744073709551616 * (y / P) + y % P * R := by
    rw [← h3]
    conv => lhs; rw [← d5]
    rw [Int.add_mul, Int.mul_assoc, Int.mul_comm (y / P) R, ← Int.mul_assoc]
  have d7 : 0 ≤ y % P * R := Int.mul_nonneg d3 (by omega)
  have d8 : (y % P + 1) * R ≤ P * R := Int.mul_le_mul_of_nonneg_right (by omega) (by omega)
  rw [h3, Int.add_mul, Int.one_mul] at d8
  refine ⟨?_, d7, d8⟩
  rw [IntKind.wrap_u64, d6]
  generalize y % P * R = z at *
  omega
theorem low_word {x : Int} {p : Nat} (hp : p ≤ 63) (hx : 0 ≤ x ∧ x < 18446744073709551616) : 0 ≤ x / (2 : Int) ^ p ∧ x / (2 : Int) ^ p < (2 : Int) ^ (64 - p) := by
  obtain ⟨h1, h2, h3⟩ := pow_parts hp
  exact ⟨Int.ediv_nonneg hx.1 (by omega), Int.ediv_lt_of_lt_mul (by omega) (by rw [Int.mul_comm, h3]; exact hx.2)⟩
theorem RightK.step {ms rs : List Int} {W p k : Nat} (h : RightK ms W p k rs) (hp : p ≤ 63) (hW : W + k < 8) (hl : ms.length = 8) (hg : wgood ms) :
    RightK ms W p (k + 1) (rs.set k (ms.getD (W + k) 0 / (2 : Int) ^ p + ms.getD (W + (k + 1)) 0 % (2 : Int) ^ p * (2 : Int) ^ (64 - p))) := by
  obtain ⟨h1, h2, h3⟩ := pow_parts hp
  have hx := low_word hp (wgood_get hg (W + k))
  have hy := down_word hp (wgood_get hg (W + (k + 1)))
  refine ⟨by simpa using h.len, wgood_set h.good _ (by omega), fun j hj => ?_, ?_⟩
  · have := h.zero j (by omega)
    rw [List.getD_eq_getElem?_getD] at this ⊢
    rw [List.getElem?_set_ne (by omega)]
    exact this
  · have hs := h.sum
    have hg1 : (ms.drop W).getD k 0 = ms.getD (W + k) 0 := by rw [List.getD_eq_getElem?_getD, List.getElem?_drop, ← List.getD_eq_getElem?_getD]
    have d5 := Int.mul_ediv_add_emod (ms.getD (W + k) 0) ((2 : Int) ^ p)
    rw [wval_set _ _ _ (by rw [h.len]; omega), h.zero k (Nat.le_refl _), Int.sub_zero, wval_take_succ (ms.drop W) k (by rw [List.length_drop]; omega), hg1]
    rw [show 2 * (k + 1) = 2 + 2 * k by omega, pw_add, show pw 2 = 18446744073709551616 by decide]
    clear hx hy hg1
    generalize ms.getD (W + k) 0 = x at *
    generalize ms.getD (W + (k + 1)) 0 = y at *
    generalize pw (2 * k) = q at *
    generalize wval rs = V at *
    generalize wval ((ms.drop W).take k) = T at *
    generalize ms.getD W 0 = z at *
    generalize (2 : Int) ^ (64 - p) = R at *
    generalize (2 : Int) ^ p = P at *
    have e : (x / P + y % P * R) * q * P = (x - x % P) * q + y % P * (18446744073709551616 * q) := by
      rw [show x - x % P = P * (x / P) by omega, ← h3]
      generalize x / P = a
      generalize y % P = b
      rw [Int.add_mul, Int.add_mul]
      congr 1
      · rw [Int.mul_assoc, Int.mul_comm q P, ← Int.mul_assoc, Int.mul_comm a P]
      · rw [Int.mul_assoc b R q, Int.mul_assoc b, Int.mul_comm (R * q) P, Int.mul_assoc P R q]
    rw [Int.add_mul V, e, Int.sub_mul]
    omega
noncomputable def rightL : Code := ((Tryz.f78.body.bind (findB 0)).getD .skip)
set_option maxHeartbeats 4000000 in
set_option maxRecDepth 100000 in
theorem right_loop {C A W p : Nat} {ms : List Int} (hW : W ≤ 8) (hp : p ≤ 63) (hms : wgood ms) (hml : ms.length = 8)
    {w0 w : World} (hA : A < C) (hm : ∀ j, j < 8 → w0.cell? ⟨A, j, none⟩ = some (.int .u64 (ms.getD j 0))) (hC0 : Cells8 C (List.replicate 8 0) w0 w)
    (c0 c1 c3 c8 c9 c10 c11 c12 c43 u13 u14 u15 u16 u17 u18 u19 u20 u21 u22 u23 u24 u25 u26 u27 u28 u29 u30 u31 u32 u33 u34 u35 u36 u37 u38 u39 u40 u41 u42 : Value) (Q : Exit → Act → World → Prop)
    (hQ : ∀ (rs : List Int) (k : Nat) (u7 u13 u14 u15 u16 u17 u18 u19 u20 u21 u22 u23 u24 u25 u26 u27 u28 u29 u30 u31 u32 u33 u34 u35 u36 u37 u38 u39 u40 u41 u42 : Value) (w1 : World), W + k = 8 → RightK ms W p k rs → Cells8 C rs w0 w1 → Q (.exit 0) ⟨(List.toArray (c0 :: c1 :: (.pointer (some ⟨A, 0, none⟩)) :: c3 :: (.pointer (some ⟨C, 0, none⟩)) :: (.int .i64 (W : Nat)) :: (.int .i64 (p : Nat)) :: u7 :: c8 :: c9 :: c10 :: c11 :: c12 :: u13 :: u14 :: u15 :: u16 :: u17 :: u18 :: u19 :: u20 :: u21 :: u22 :: u23 :: u24 :: u25 :: u26 :: u27 :: u28 :: u29 :: u30 :: u31 :: u32 :: u33 :: u34 :: u35 :: u36 :: u37 :: u38 :: u39 :: u40 :: u41 :: u42 :: c43 :: [])), []⟩ w1) :
    Code.wp Tryz.prog rightL Q ⟨(List.toArray (c0 :: c1 :: (.pointer (some ⟨A, 0, none⟩)) :: c3 :: (.pointer (some ⟨C, 0, none⟩)) :: (.int .i64 (W : Nat)) :: (.int .i64 (p : Nat)) :: (.int .i64 (W : Nat)) :: c8 :: c9 :: c10 :: c11 :: c12 :: u13 :: u14 :: u15 :: u16 :: u17 :: u18 :: u19 :: u20 :: u21 :: u22 :: u23 :: u24 :: u25 :: u26 :: u27 :: u28 :: u29 :: u30 :: u31 :: u32 :: u33 :: u34 :: u35 :: u36 :: u37 :: u38 :: u39 :: u40 :: u41 :: u42 :: c43 :: [])), []⟩ w := by
  conv => arg 2; whnf
  go_loopw [7] (fun a w1 => ∃ (k i : Nat) (rs : List Int), a = .int .i64 i ∧ i = W + k ∧ i ≤ 8 ∧ RightK ms W p k rs ∧ Cells8 C rs w0 w1) (fun a _ => 8 - (intOf a).toNat)
  case atStart =>
    refine ⟨0, W, List.replicate 8 0, rfl, rfl, hW, ⟨rfl, fun x hx => by rw [List.eq_of_mem_replicate hx]; decide, fun j _ => by rw [List.getD_eq_getElem?_getD, List.getElem?_replicate]; split <;> rfl, ?_⟩, hC0⟩
    rw [wval_zero, List.take_zero, show wval [] = 0 from rfl, show pw (2 * 0) = 1 from rfl, Nat.add_zero]
    simp
  case round =>
    obtain ⟨k, i, rs, rfl, hik, hi8, hd, hc⟩ := hrel
    have hi0 : (0 : Int) ≤ (i : Int) := by omega
    have hp0 : (0 : Int) ≤ (p : Int) := by omega
    have hp1 : (p : Int) ≤ 63 := by omega
    by_cases h8 : i = 8
    · subst h8
      clear hms hml hm hC0
      go_wp2
      exact hQ _ _ _ _ _ _ _ _ _ _ _ _ _ _ _ _ _ _ _ _ _ _ _ _ _ _ _ _ _ _ _ _ _ _ hik.symm hd hc
    · have hi8' : (i : Int) < 8 := by omega
      have hek : (i : Int) - (W : Int) = (k : Int) := by omega
      have hk0 : (0 : Int) ≤ (k : Int) := by omega
      have hk8 : (k : Int) < 8 := by omega
      have hx := wgood_get hms i
      have hlw := low_word hp hx
      have hst := hd.step hp (by omega) hml hms
      have hdn := down_word hp (wgood_get hms (W + (k + 1)))
      rw [show W + (k + 1) = i + 1 by omega] at hst hdn
      rw [← hik] at hst
      have hcell : wr.cell? ⟨A, i, none⟩ = some (.int .u64 (ms.getD i 0)) := (hc.bel.cell (p := ⟨A, i, none⟩) hA).trans (hm i (by omega))
      have hfz : wr.frozen? ⟨C, k, none⟩ = false := frozenOf hc.cells
      have hcs : wr.cell? ⟨C, k, none⟩ = some (.int .u64 (rs.getD k 0)) := by rw [cellOf hc.cells]; exact col_words (by rw [hd.len]; omega)
      by_cases hi7 : i = 7
      · subst hi7
        have hz : ms.getD (7 + 1) 0 = 0 := by rw [List.getD_eq_getElem?_getD, List.getElem?_eq_none (by omega)]; rfl
        rw [hz, Int.zero_emod, Int.zero_mul, Int.add_zero] at hst
        have hfin : ∃ (kk j : Nat) (rs : List Int), Value.int .i64 8 = .int .i64 j ∧ j = W + kk ∧ j ≤ 8 ∧ RightK ms W p kk rs ∧ Cells8 C rs w0 (wr.setCell ⟨C, k, none⟩ (.int .u64 (ms.getD 7 0 / (2 : Int) ^ p))) := by
          refine ⟨k + 1, 8, _, rfl, by omega, by omega, hst, ⟨hc.bel.setCell (p := ⟨C, k, none⟩) (Nat.le_refl C) _, ?_⟩⟩
          rw [heap_setCell_same _ C k _ 59 _ hc.cells]
          simp [List.map_set]
        have hek7 : (7 : Int) - (W : Int) = (k : Int) := by omega
        clear hst hm hC0 hms hd hc hik hek hdn hz
        generalize ms.getD 7 0 = x at *
        generalize hlo : x / (2 : Int) ^ p = lo at *
        go_wp2
        go_roundw
        case rel => exact hfin
        case measure => simp [intOf]
      · have hi7' : (i : Int) + 1 < 8 := by omega
        have hcell' : wr.cell? ⟨A, i + 1, none⟩ = some (.int .u64 (ms.getD (i + 1) 0)) := (hc.bel.cell (p := ⟨A, i + 1, none⟩) hA).trans (hm (i + 1) (by omega))
        have v1 : IntKind.i64.wrap (k : Int) = (k : Int) := by rw [IntKind.wrap_i64]; omega
        obtain ⟨i2, hi2⟩ : ∃ i2 : Nat, i2 = i + 1 := ⟨_, rfl⟩
        have hi20 : (0 : Int) ≤ (i2 : Int) := by omega
        have hi21 : (i2 : Int) < 8 := by omega
        have v2 : IntKind.i64.wrap ((i : Int) + 1) = (i2 : Int) := by rw [IntKind.wrap_i64]; omega
        have v3 : IntKind.i64.wrap (64 - (p : Int)) = ((64 - p : Nat) : Int) := by rw [IntKind.wrap_i64]; omega
        have h64 : (2 : Int) ^ 64 = 18446744073709551616 := by decide
        have hpp := pow_parts hp
        have hor : bits .or .u64 (ms.getD i 0 / (2 : Int) ^ p) (ms.getD (i + 1) 0 % (2 : Int) ^ p * (2 : Int) ^ (64 - p)) = ms.getD i 0 / (2 : Int) ^ p + ms.getD (i + 1) 0 % (2 : Int) ^ p * (2 : Int) ^ (64 - p) :=
          bits_join_low .u64 64 (by decide) wraps_u64 (64 - p) _ _ hlw.1 hlw.2 (by rw [h64]; omega) hdn.2.1 (Int.mul_emod_left _ _) (by rw [h64]; omega)
        have v4 := hdn.1
        have c1 : (wr.setCell ⟨C, k, none⟩ (.int .u64 (ms.getD i 0 / (2 : Int) ^ p))).drew.heap[C]? = some (.cells ((rs.set k (ms.getD i 0 / (2 : Int) ^ p)).map (Value.int .u64)).toArray 59) := by
          show (wr.setCell ⟨C, k, none⟩ (.int .u64 (ms.getD i 0 / (2 : Int) ^ p))).heap[C]? = _
          rw [heap_setCell_same _ C k _ 59 _ hc.cells]
          simp [List.map_set]
        have c2 : Below C w0 (wr.setCell ⟨C, k, none⟩ (.int .u64 (ms.getD i 0 / (2 : Int) ^ p))).drew := (hc.bel.setCell (p := ⟨C, k, none⟩) (Nat.le_refl C) _).drew
        have g1 : (wr.setCell ⟨C, k, none⟩ (.int .u64 (ms.getD i 0 / (2 : Int) ^ p))).drew.cell? ⟨C, k, none⟩ = some (.int .u64 (ms.getD i 0 / (2 : Int) ^ p)) := by
          rw [cellOf c1, col_words (by rw [List.length_set, hd.len]; omega), List.getD_eq_getElem?_getD, List.getElem?_set_self (by rw [hd.len]; omega)]
          rfl
        have g2 : (wr.setCell ⟨C, k, none⟩ (.int .u64 (ms.getD i 0 / (2 : Int) ^ p))).drew.cell? ⟨A, i + 1, none⟩ = some (.int .u64 (ms.getD (i + 1) 0)) := (c2.cell (p := ⟨A, i + 1, none⟩) hA).trans (hm (i + 1) (by omega))
        have g3 : (wr.setCell ⟨C, k, none⟩ (.int .u64 (ms.getD i 0 / (2 : Int) ^ p))).drew.frozen? ⟨C, k, none⟩ = false := frozenOf c1
        have hfin : ∃ (kk j : Nat) (rs : List Int), Value.int .i64 ((i : Int) + 1) = .int .i64 j ∧ j = W + kk ∧ j ≤ 8 ∧ RightK ms W p kk rs ∧ Cells8 C rs w0 ((wr.setCell ⟨C, k, none⟩ (.int .u64 (ms.getD i 0 / (2 : Int) ^ p))).drew.setCell ⟨C, k, none⟩ (.int .u64 (ms.getD i 0 / (2 : Int) ^ p + ms.getD (i + 1) 0 % (2 : Int) ^ p * (2 : Int) ^ (64 - p)))) := by
          refine ⟨k + 1, i + 1, _, rfl, by omega, by omega, hst, ⟨c2.setCell (p := ⟨C, k, none⟩) (Nat.le_refl C) _, ?_⟩⟩
          rw [heap_setCell_same _ C k _ 59 _ c1]
          simp [List.map_set]
        have f1 : (wr.setCell ⟨C, k, none⟩ (.int .u64 (ms.getD i 0 / (2 : Int) ^ p))).cell? ⟨C, k, none⟩ = some (.int .u64 (ms.getD i 0 / (2 : Int) ^ p)) := g1
        have f2 : (wr.setCell ⟨C, k, none⟩ (.int .u64 (ms.getD i 0 / (2 : Int) ^ p))).cell? ⟨A, i + 1, none⟩ = some (.int .u64 (ms.getD (i + 1) 0)) := g2
        have f3 : (wr.setCell ⟨C, k, none⟩ (.int .u64 (ms.getD i 0 / (2 : Int) ^ p))).frozen? ⟨C, k, none⟩ = false := g3
        rw [← hi2] at f2 g2 hcell' hor v4 hfin
        clear c1 c2 hst hm hC0 hms hd hc hik hdn hpp h64 hi2
        generalize ms.getD i2 0 % (2 : Int) ^ p * (2 : Int) ^ (64 - p) = up at *
        generalize ms.getD i 0 = x at *
        generalize ms.getD i2 0 = y at *
        generalize hlo : x / (2 : Int) ^ p = lo at *
        go_wp2
        generalize wr.setCell ⟨C, k, none⟩ (.int .u64 lo) = w1 at *
        go_still_tail 14, (by kernel_rfl)
        change wpList _ _ _ _ _ w1.drew
        generalize w1.drew = w2 at *
        clear v2
        go_wp2
        go_roundw
        case rel => exact hfin
        case measure => simp [intOf]; omega
end Go.Proofs.YtaafimabgcnbaabGreatDoor
namespace Go.Proofs.YtaafimabgcnbaabGreatDoor
open Go Go.Rx Go.RowKit Go.Big
attribute [local instance] noAv
/-- The words ms above 64 W bits, without p bits of theirs. -/
def RightR (ms : List Int) (W p : Nat) (r : Value) : Prop := ∃ (rs : List Int), rs.length = 8 ∧ wgood rs ∧ wval rs = wval (ms.drop W) / (2 : Int) ^ p ∧ r = .agg (rs.map (Value.int .u64)).toArray
set_option maxHeartbeats 4000000 in
set_option maxRecDepth 100000 in
theorem right_c {w : World} {m0 m1 m2 m3 m4 m5 m6 m7 : Int} {N W p : Nat} (hW : W ≤ 8) (hp : p ≤ 63) (hN : N = 64 * W + p) (hms : wgood [m0, m1, m2, m3, m4, m5, m6, m7]) :
    Calls Tryz.prog 78 #[.agg #[.int .u64 m0, .int .u64 m1, .int .u64 m2, .int .u64 m3, .int .u64 m4, .int .u64 m5, .int .u64 m6, .int .u64 m7], .int .i64 N] w (Gets (fun _ r => RightR [m0, m1, m2, m3, m4, m5, m6, m7] W p r) w) := by
  have hN0 : (0 : Int) ≤ (N : Int) := by omega
  have hN1 : (N : Int) ≤ 575 := by omega
  have q1 : (N : Int).tdiv 64 = (W : Int) := by rw [Int.tdiv_eq_ediv_of_nonneg hN0]; omega
  have q2 : (N : Int).tmod 64 = (p : Int) := by rw [Int.tmod_eq_emod_of_nonneg hN0]; omega
  have q3 : (N : Int) / 64 = (W : Int) := by omega
  have q4 : (N : Int) % 64 = (p : Int) := by omega
  have v1 : IntKind.i64.wrap (W : Int) = W := by rw [IntKind.wrap_i64]; omega
  have v2 : IntKind.i64.wrap (p : Int) = p := by rw [IntKind.wrap_i64]; omega
  obtain ⟨k1, k2⟩ := heap2 w (.cells #[.int .u64 m0, .int .u64 m1, .int .u64 m2, .int .u64 m3, .int .u64 m4, .int .u64 m5, .int .u64 m6, .int .u64 m7] 59) (.cells #[.int .u64 0, .int .u64 0, .int .u64 0, .int .u64 0, .int .u64 0, .int .u64 0, .int .u64 0, .int .u64 0] 59)
  have b2 : Below w.heap.size w ((w.alloc (.cells #[.int .u64 m0, .int .u64 m1, .int .u64 m2, .int .u64 m3, .int .u64 m4, .int .u64 m5, .int .u64 m6, .int .u64 m7] 59)).alloc (.cells #[.int .u64 0, .int .u64 0, .int .u64 0, .int .u64 0, .int .u64 0, .int .u64 0, .int .u64 0, .int .u64 0] 59)) := ((Below.refl _ w).alloc (Nat.le_refl _) _).alloc (by simp) _
  have hm : ∀ j, j < 8 → ((w.alloc (.cells #[.int .u64 m0, .int .u64 m1, .int .u64 m2, .int .u64 m3, .int .u64 m4, .int .u64 m5, .int .u64 m6, .int .u64 m7] 59)).alloc (.cells #[.int .u64 0, .int .u64 0, .int .u64 0, .int .u64 0, .int .u64 0, .int .u64 0, .int .u64 0, .int .u64 0] 59)).cell? ⟨w.heap.size, j, none⟩ = some (.int .u64 ([m0, m1, m2, m3, m4, m5, m6, m7].getD j 0)) := fun j hj => by
    rw [cellOf k1]; exact col_words (l := [m0, m1, m2, m3, m4, m5, m6, m7]) hj
  have hc0 : Cells8 (w.heap.size + 1) (List.replicate 8 0) ((w.alloc (.cells #[.int .u64 m0, .int .u64 m1, .int .u64 m2, .int .u64 m3, .int .u64 m4, .int .u64 m5, .int .u64 m6, .int .u64 m7] 59)).alloc (.cells #[.int .u64 0, .int .u64 0, .int .u64 0, .int .u64 0, .int .u64 0, .int .u64 0, .int .u64 0, .int .u64 0] 59)) ((w.alloc (.cells #[.int .u64 m0, .int .u64 m1, .int .u64 m2, .int .u64 m3, .int .u64 m4, .int .u64 m5, .int .u64 m6, .int .u64 m7] 59)).alloc (.cells #[.int .u64 0, .int .u64 0, .int .u64 0, .int .u64 0, .int .u64 0, .int .u64 0, .int .u64 0, .int .u64 0] 59)) := ⟨Below.refl _ _, k2⟩
  have Hm := Lib.hid hm
  have B2 := Lib.hid b2
  have HN := Lib.hid hN
  clear hm k1 k2 b2 hN
  go_enter Tryz.func78, Tryz.ntmps78
  go_wp2
  refine right_loop hW hp hms rfl (show w.heap.size < w.heap.size + 1 by omega) Hm.out hc0 _ _ _ _ _ _ _ _ _ _ _ _ _ _ _ _ _ _ _ _ _ _ _ _ _ _ _ _ _ _ _ _ _ _ _ _ _ _ _ _ (fun rs k u7 u13 u14 u15 u16 u17 u18 u19 u20 u21 u22 u23 u24 u25 u26 u27 u28 u29 u30 u31 u32 u33 u34 u35 u36 u37 u38 u39 u40 u41 u42 W1 hk hd hc => ?_)
  have hl := hd.len
  have hs := hd.sum
  have hg := hd.good
  have b1 := B2.out
  have hbs : w.heap.size + 1 ≤ ((w.alloc (.cells #[.int .u64 m0, .int .u64 m1, .int .u64 m2, .int .u64 m3, .int .u64 m4, .int .u64 m5, .int .u64 m6, .int .u64 m7] 59)).alloc (.cells #[.int .u64 0, .int .u64 0, .int .u64 0, .int .u64 0, .int .u64 0, .int .u64 0, .int .u64 0, .int .u64 0] 59)).heap.size := b1.size |> fun h => by simp
  obtain ⟨a0, a1, a2, a3, a4, a5, a6, a7, rfl⟩ := list8i hl
  have hval : wval [a0, a1, a2, a3, a4, a5, a6, a7] = wval (([m0, m1, m2, m3, m4, m5, m6, m7] : List Int).drop W) / (2 : Int) ^ p := by
    have h8 : ([m0, m1, m2, m3, m4, m5, m6, m7] : List Int).getD (W + k) 0 = 0 := by rw [hk]; rfl
    rw [h8, Int.zero_emod, Int.zero_mul, Int.add_zero, List.take_of_length_le (by simp; omega)] at hs
    have hpp := (pow_parts hp).1
    have r1 := Int.emod_nonneg (([m0, m1, m2, m3, m4, m5, m6, m7] : List Int).getD W 0) (show (2 : Int) ^ p ≠ 0 by omega)
    have r2 := Int.emod_lt_of_pos (([m0, m1, m2, m3, m4, m5, m6, m7] : List Int).getD W 0) (show 0 < (2 : Int) ^ p by omega)
    rw [← hs, Int.add_comm, Int.add_mul_ediv_right _ _ (by omega), Int.ediv_eq_zero_of_lt r1 r2, Int.zero_add]
  have hfin : RightR [m0, m1, m2, m3, m4, m5, m6, m7] W p (.agg #[.int .u64 a0, .int .u64 a1, .int .u64 a2, .int .u64 a3, .int .u64 a4, .int .u64 a5, .int .u64 a6, .int .u64 a7]) := ⟨_, hl, hg, hval, rfl⟩
  have f3 : W1.heap[w.heap.size + 1]? = some (.cells #[.int .u64 a0, .int .u64 a1, .int .u64 a2, .int .u64 a3, .int .u64 a4, .int .u64 a5, .int .u64 a6, .int .u64 a7] 59) := hc.cells
  have bf : Below w.heap.size w W1 := b1.trans (hc.bel.mono (by omega))
  have fl : ∀ j, W1.frozen? ⟨w.heap.size + 1, j, none⟩ = false := fun j => frozenOf f3
  obtain ⟨y0, y1, y2, y3, y4, y5, y6, y7⟩ : W1.cell? ⟨w.heap.size + 1, 0, none⟩ = some (.int .u64 a0) ∧ W1.cell? ⟨w.heap.size + 1, 1, none⟩ = some (.int .u64 a1) ∧ W1.cell? ⟨w.heap.size + 1, 2, none⟩ = some (.int .u64 a2) ∧ W1.cell? ⟨w.heap.size + 1, 3, none⟩ = some (.int .u64 a3) ∧ W1.cell? ⟨w.heap.size + 1, 4, none⟩ = some (.int .u64 a4) ∧ W1.cell? ⟨w.heap.size + 1, 5, none⟩ = some (.int .u64 a5) ∧ W1.cell? ⟨w.heap.size + 1, 6, none⟩ = some (.int .u64 a6) ∧ W1.cell? ⟨w.heap.size + 1, 7, none⟩ = some (.int .u64 a7) := ⟨(cellOf (j := 0) f3).trans rfl, (cellOf (j := 1) f3).trans rfl, (cellOf (j := 2) f3).trans rfl, (cellOf (j := 3) f3).trans rfl, (cellOf (j := 4) f3).trans rfl, (cellOf (j := 5) f3).trans rfl, (cellOf (j := 6) f3).trans rfl, (cellOf (j := 7) f3).trans rfl⟩
  have hsz : w.heap.size + 1 < W1.heap.size := (Array.getElem?_eq_some_iff.1 f3).1
  clear f3 hs hd hc hc0 Hm hms b1 B2 hbs hk
  go_wp2
  exact bodyPost_ret (v := .agg #[.int .u64 a0, .int .u64 a1, .int .u64 a2, .int .u64 a3, .int .u64 a4, .int .u64 a5, .int .u64 a6, .int .u64 a7]) (by simp [results, Tryz.results78, go_sem, y0, y1, y2, y3, y4, y5, y6, y7, hsz]) rfl ⟨_, rfl, hfin, below_set8 bf (by omega) _ _ _ _ _ _ _ _⟩
#print axioms right_c
end Go.Proofs.YtaafimabgcnbaabGreatDoor
