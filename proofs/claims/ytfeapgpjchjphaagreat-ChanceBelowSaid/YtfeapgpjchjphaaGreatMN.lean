/-
  Contracts of the reference: Out, where it fits.
  Wide integers, as the reference's contracts and those of package wide say them.
  Contracts of the reference: Of, Sign, Cmp.
  Contracts of the reference: Sign, Cmp.
-/
import Derived.Test.YtfeapgpjchjphaaGreatML
import Derived.Test.YtfeapgpjchjphaaGreatMJ
set_option linter.all false
namespace Go.Proofs.YtfeapgpjchjphaaGreat
open Go Go.RowKit Go.Big
attribute [local instance] noAv
theorem list8' {α : Type} (l : List α) (h : l.length = 8) : ∃ a b c d e f g i, l = [a, b, c, d, e, f, g, i] := by
  match l, h with
  | [a, b, c, d, e, f, g, i], _ => exact ⟨a, b, c, d, e, f, g, i, rfl⟩
theorem wint_of {ws : List Int} {z : Int} (hl : ws.length = 8) (hg : wgood ws) (hz : fits z) (h : wval ws = if z < 0 then z + 13407807929942597099574024998205846127479365820592393377723561443721764030073546976801874298166903427690031858186486050853753882811946569946433649006084096 else z) : wint ws = z := by
  obtain ⟨a, b, c, d, e, f, g, i, rfl⟩ := list8' ws hl
  have ga := hg a (by simp)
  have gb := hg b (by simp)
  have gc := hg c (by simp)
  have gd := hg d (by simp)
  have ge := hg e (by simp)
  have gf := hg f (by simp)
  have gg := hg g (by simp)
  have gi := hg i (by simp)
  have e7 : [a, b, c, d, e, f, g, i].getD 7 0 = i := rfl
  unfold wint
  rw [e7]
  unfold fits at hz
  simp only [wval] at h ⊢
  split at h <;> split <;> omega
theorem wpairs8 {ds : List Int} {k : Nat} (h : ds.length ≤ k) : wpairs 8 ds = [pairAt ds k 0, pairAt ds k 1, pairAt ds k 2, pairAt ds k 3, pairAt ds k 4, pairAt ds k 5, pairAt ds k 6, pairAt ds k 7] := by
  obtain ⟨a, b, c, d, e, f, g, i, hw⟩ := list8' (wpairs 8 ds) (wpairs_len 8 ds)
  have key : ∀ j, j < 8 → (wpairs 8 ds).getD j 0 = pairAt ds k j := fun j hj => by rw [wpairs_get 8 ds j hj, pairAt_end h]
  rw [hw] at key ⊢
  have k0 : a = _ := key 0 (by decide)
  have k1 : b = _ := key 1 (by decide)
  have k2 : c = _ := key 2 (by decide)
  have k3 : d = _ := key 3 (by decide)
  have k4 : e = _ := key 4 (by decide)
  have k5 : f = _ := key 5 (by decide)
  have k6 : g = _ := key 6 (by decide)
  have k7 : i = _ := key 7 (by decide)
  rw [k0, k1, k2, k3, k4, k5, k6, k7]
def OutLoop (ds : List Int) (W : World) (i : Value) (wr : World) : Prop :=
  ∃ k : Nat, i = .int .i64 k ∧ k ≤ ds.length ∧ Below W.heap.size W wr ∧ (∀ j, j < 8 → wr.cell? ⟨W.heap.size, j, none⟩ = some (.int .u64 (pairAt ds k j))) ∧ ∀ j, wr.frozen? ⟨W.heap.size, j, none⟩ = false
theorem outLoop_start (ds : List Int) (W : World) (t : TypeId) : OutLoop ds W (.int .i64 0) (W.alloc (.cells #[.int .u64 0, .int .u64 0, .int .u64 0, .int .u64 0, .int .u64 0, .int .u64 0, .int .u64 0, .int .u64 0] t)) := by
  have k := (MapKept.heap_alloc W (.cells #[.int .u64 0, .int .u64 0, .int .u64 0, .int .u64 0, .int .u64 0, .int .u64 0, .int .u64 0, .int .u64 0] t)).1
  exact ⟨0, rfl, Nat.zero_le _, (Below.refl _ _).alloc (Nat.le_refl _) _, fun j hj => by rw [pairAt_zero, cellOf k]; match j, hj with | 0, _ => rfl | 1, _ => rfl | 2, _ => rfl | 3, _ => rfl | 4, _ => rfl | 5, _ => rfl | 6, _ => rfl | 7, _ => rfl, fun j => frozenOf k⟩
theorem outLoop_next {ds : List Int} {W wr : World} {k q : Nat} (hq : k / 2 = q) (hk : k < ds.length) (bel : Below W.heap.size W wr) (hc : ∀ j, j < 8 → wr.cell? ⟨W.heap.size, j, none⟩ = some (.int .u64 (pairAt ds k j))) (hf : ∀ j, wr.frozen? ⟨W.heap.size, j, none⟩ = false) (h8 : q < 8) {v : Int} (hv : v = pairAt ds (k + 1) q) :
    ∀ n : Int, n = ((k + 1 : Nat) : Int) → OutLoop ds W (.int .i64 n) ((wr.setCell ⟨W.heap.size, q, none⟩ (.int .u64 v)).drew) := by
  rintro n rfl
  subst hq
  refine ⟨k + 1, rfl, by omega, (bel.setCell (Nat.le_refl _) _).drew, fun j hj => ?_, fun j => ?_⟩
  rotate_left
  · show (wr.setCell _ _).frozen? _ = false
    simpa using hf j
  show (wr.setCell _ _).cell? _ = _
  by_cases e : j = k / 2
  · subst e
    rw [World.cell?_setCell_same _ _ _ (u := .int .u64 (pairAt ds k (k / 2))) (hc _ h8), hv]
  · rw [World.cell?_setCell_other _ _ _ _ (fun h => e (by injection h with _ h2; exact h2.symm)), pairAt_other e]
    exact hc j hj
set_option maxHeartbeats 800000 in
set_option maxRecDepth 100000 in
theorem out_fit {w : World} {u : Value} {z : Int} (h : LongV w u z) (hs : small z) (hz : fits z) : Calls Tryz.prog 36 #[u] w (Gets (fun _ r => ∃ ws, r = wordsE ws 0 ∧ ws.length = 8 ∧ wgood ws ∧ wint ws = z) w) := by
  obtain ⟨b, s, xs, rfl, r1, g1, n1, z1, e1⟩ := h
  have l1 := small_len g1 n1 e1 hs
  have hsmall : (b = false → val xs < val halfL) ∧ (b = true → val xs ≤ val halfL) := by
    rw [half_val]
    unfold fits at hz
    constructor <;> intro hb <;> subst hb
    · rw [sgz_f] at e1; have := val_bounds g1; omega
    · rw [sgz_t] at e1; have := val_bounds g1; omega
  have hpos : b = true → 0 < val xs := fun h => by
    have p1 := norm_low g1 n1 (z1 h)
    have p2 := pw_pos (xs.length - 1)
    omega
  obtain ⟨i0, hi, hz0, hz1, hz2⟩ := info_parts Tryz.info3
  obtain ⟨a, c, rfl, hc⟩ := r1.len
  have b0 := fun o1 o2 : Obj => Below.refl (w.heap.size + 1 + 1) ((w.alloc o1).alloc o2)
  clear hs z1
  go_enter Tryz.func36, Tryz.ntmps36
  go_wp2_with (at_make; refine wpList_make_full _ rfl _ _ 45 rfl _ 3 i0 (.int .i64 0) 1 Tryz.underlying45 hi hz0 hz1 _ _ _ _ 16 rfl rfl rfl rfl (by rw [hz2]; decide) (by decide) (Nat.le_refl _) ?_; intro w0 hown0 hgrow0; have I0 := prodI_made hown0 hgrow0 15; have f15 := I0.fz 15; have k15 := I0.cell (j := 15) (by decide); have B0 := next2 (b0 _ _) I0.bel; have c1 : w0.cell? ⟨w.heap.size, 1, none⟩ = some (.slice a xs.length c) := (cellOf (j := 1) ((B0.block w.heap.size (by omega)).trans (heap2 w _ _).1)).trans rfl; simp at f15 k15)
  have I1 := I0.set (m' := 16) (j := 15) (d := 2147483648) (by decide) (by decide) (by decide) (by decide)
  have B1 := next2 (b0 _ _) I1.bel
  have hh : RowK .i64 _ _ halfL := RowK.own0 I1.own
  rw [size2] at B1 hh
  have hx := r1.below (below2 B1)
  clear I1 I0 hown0 hgrow0
  refine (order_c hx hh g1 half_good n1 half_norm (by omega) (by decide)).mono ?_
  rintro e w2 ⟨x2, rfl, ⟨r, rfl, hr1, hr2⟩, hb2⟩
  have B2 := next2 B1 hb2
  have k0 := (B2.block w.heap.size (by omega)).trans (heap2 w _ _).1
  have k1 := (B2.block (w.heap.size + 1) (by omega)).trans (heap2 w _ _).2
  have c0 : w2.cell? ⟨w.heap.size, 0, none⟩ = some (.bool b) := (cellOf (j := 0) k0).trans rfl
  have c1' : w2.cell? ⟨w.heap.size, 1, none⟩ = some (.slice a xs.length c) := (cellOf (j := 1) k0).trans rfl
  have z0 : ∀ j, j < 8 → w2.cell? ⟨w.heap.size + 1, j, none⟩ = some (.int .u64 0) := fun j hj => (cellOf (j := j) k1).trans (by match j, hj with | 0, _ => rfl | 1, _ => rfl | 2, _ => rfl | 3, _ => rfl | 4, _ => rfl | 5, _ => rfl | 6, _ => rfl | 7, _ => rfl)
  have y0 := z0 0 (by decide)
  have y1 := z0 1 (by decide)
  have y2 := z0 2 (by decide)
  have y3 := z0 3 (by decide)
  have y4 := z0 4 (by decide)
  have y5 := z0 5 (by decide)
  have y6 := z0 6 (by decide)
  have y7 := z0 7 (by decide)
  have fz : ∀ j, w2.frozen? ⟨w.heap.size + 1, j, none⟩ = false := fun j => frozenOf k1
  have hB := below2 B2
  obtain ⟨hbf, hbt⟩ := hsmall
  cases b with
  | false =>
    have hr : r < 0 := hr1.2 (hbf rfl)
    have hbz : val xs = z := by rw [e1, sgz_f]
    have hrow := hx.below hb2
    have hl : xs.length ≤ 16 := by
      rcases Nat.lt_or_ge 16 xs.length with h' | h'
      · have p1 := norm_low g1 n1 (by omega)
        have p2 := pw_mono (show 16 ≤ xs.length - 1 by omega)
        rw [pw16] at p2
        have p3 := hbf rfl
        rw [half_val] at p3
        omega
      · exact h'
    clear hbf hbt hpos hh hr1 hr2 k0 k1 z0 r1 hx e1 B1 hb2 n1
    have hst := outLoop_start xs w2 26
    go_wp2
    go_loopw [9] (OutLoop xs w2) (fun i _ => xs.length - (intOf i).toNat)
    case atStart => exact hst
    case round =>
      obtain ⟨k, rfl, hk, bel, hc, hf⟩ := hrel
      by_cases hkl : k < xs.length
      · obtain ⟨b', o', rfl, hb', hcx⟩ := hrow.cell hkl
        have hx := (bel.cell (p := ⟨b', o' + k, none⟩) hb').trans hcx
        obtain ⟨x0, x1⟩ := good_getD g1 k
        have hcq := hc (k / 2) (by omega)
        have hfq := hf (k / 2)
        rcases Nat.mod_two_eq_zero_or_one k with hm | hm
        · obtain ⟨q, rfl⟩ : ∃ q, k = 2 * q := ⟨k / 2, by omega⟩
          rw [show 2 * q / 2 = q by omega, pairAt_even.1] at hcq
          rw [show 2 * q / 2 = q by omega] at hfq
          have hq8 : q < 8 := by omega
          have N := fun v hv => outLoop_next (ds := xs) (q := q) (v := v) (by omega) hkl bel hc hf hq8 hv
          rw [pairAt_even.2] at N
          clear hc hf hcx
          generalize hxv : xs.getD (2 * q) 0 = x at *
          go_wp2
          have E1 : IntKind.i64.wrap ((2 * (q : Int)).tdiv 2) = q := by rw [Int.tdiv_eq_ediv_of_nonneg (by omega), IntWalk.i64_in _ (by omega)]; omega
          have E2 : (2 * (q : Int)).tmod 2 = 0 := by rw [Int.tmod_eq_emod_of_nonneg (by omega)]; omega
          have E3 : IntKind.u64.wrap x = x := IntWalk.u64_in _ (by omega)
          have q0 : (0 : Int) ≤ q := by omega
          have q8 : (q : Int) < 8 := by omega
          go_region
          go_wp2
          go_roundw
          case rel => exact N _ rfl _ (by omega)
          case measure => simp [intOf]; omega
        · obtain ⟨q, rfl⟩ : ∃ q, k = 2 * q + 1 := ⟨k / 2, by omega⟩
          rw [show (2 * q + 1) / 2 = q by omega, pairAt_odd.1] at hcq
          rw [show (2 * q + 1) / 2 = q by omega] at hfq
          have hq8 : q < 8 := by omega
          have N := fun v hv => outLoop_next (ds := xs) (q := q) (v := v) (by omega) hkl bel hc hf hq8 hv
          rw [pairAt_odd.2] at N
          obtain ⟨v0, v1⟩ := good_getD g1 (2 * q)
          clear hc hf hcx
          generalize hxv : xs.getD (2 * q + 1) 0 = x at *
          generalize hyv : xs.getD (2 * q) 0 = y at *
          go_wp2
          have E1 : IntKind.i64.wrap ((2 * (q : Int) + 1).tdiv 2) = q := by rw [Int.tdiv_eq_ediv_of_nonneg (by omega), IntWalk.i64_in _ (by omega)]; omega
          have E2 : (2 * (q : Int) + 1).tmod 2 = 1 := by rw [Int.tmod_eq_emod_of_nonneg (by omega)]; omega
          have E3 : IntKind.u64.wrap x = x := IntWalk.u64_in _ (by omega)
          have E4 : IntKind.u64.wrap (x * 4294967296) = x * 4294967296 := IntWalk.u64_in _ (by omega)
          have q0 : (0 : Int) ≤ q := by omega
          have q8 : (q : Int) < 8 := by omega
          go_region
          go_wp2
          go_roundw
          case rel => exact N _ (by omega) _ (by omega)
          case measure => simp [intOf]; omega
      · obtain rfl : k = xs.length := by omega
        have v0 := hc 0 (by decide)
        have v1 := hc 1 (by decide)
        have v2 := hc 2 (by decide)
        have v3 := hc 3 (by decide)
        have v4 := hc 4 (by decide)
        have v5 := hc 5 (by decide)
        have v6 := hc 6 (by decide)
        have v7 := hc 7 (by decide)
        have w8 := wpairs8 (ds := xs) (Nat.le_refl _)
        have wv := wpairs_val 8 xs (by omega)
        have wg := wpairs_good 8 g1
        have hw := wint_of (z := z) (wpairs_len 8 xs) wg hz (by rw [wv, hbz, if_neg (by have := (val_bounds g1).1; omega)])
        rw [w8] at wg hw
        clear hc hf w8 wv hrow
        generalize pairAt xs xs.length 0 = p0 at *
        generalize pairAt xs xs.length 1 = p1 at *
        generalize pairAt xs xs.length 2 = p2 at *
        generalize pairAt xs xs.length 3 = p3 at *
        generalize pairAt xs xs.length 4 = p4 at *
        generalize pairAt xs xs.length 5 = p5 at *
        generalize pairAt xs xs.length 6 = p6 at *
        generalize pairAt xs xs.length 7 = p7 at *
        have hbb : w.heap.size + 1 < w2.heap.size := by have := B2.size; simp at this; omega
        have y0' := (bel.cell (p := ⟨w.heap.size + 1, 0, none⟩) hbb).trans y0
        have y1' := (bel.cell (p := ⟨w.heap.size + 1, 1, none⟩) hbb).trans y1
        have y2' := (bel.cell (p := ⟨w.heap.size + 1, 2, none⟩) hbb).trans y2
        have y3' := (bel.cell (p := ⟨w.heap.size + 1, 3, none⟩) hbb).trans y3
        have y4' := (bel.cell (p := ⟨w.heap.size + 1, 4, none⟩) hbb).trans y4
        have y5' := (bel.cell (p := ⟨w.heap.size + 1, 5, none⟩) hbb).trans y5
        have y6' := (bel.cell (p := ⟨w.heap.size + 1, 6, none⟩) hbb).trans y6
        have y7' := (bel.cell (p := ⟨w.heap.size + 1, 7, none⟩) hbb).trans y7
        have fz' : ∀ j, wr.frozen? ⟨w.heap.size + 1, j, none⟩ = false := fun j => (bel.frozen (p := ⟨w.heap.size + 1, j, none⟩) hbb).trans (fz j)
        have hBr : Below w.heap.size w wr := hB.trans (bel.mono (by omega))
        clear y0 y1 y2 y3 y4 y5 y6 y7 fz hB B2 B0 b0
        go_wp2
        exact bodyPost_ret (v := wordsE [p0, p1, p2, p3, p4, p5, p6, p7] 0) (by simp [results, Tryz.results36, go_sem, wordsE, y0', y1', y2', y3', y4', y5', y6', y7']) rfl ⟨_, rfl, ⟨_, rfl, rfl, wg, hw⟩, below_set8 hBr (Nat.le_succ _) _ _ _ _ _ _ _ _⟩
  | true =>
    have hr : r ≤ 0 := by
      rcases Int.lt_or_le 0 r with h | h
      · have p1 := hr2.1 h; have p2 := hbt rfl; omega
      · exact h
    have hp := hpos rfl
    have hbz : - val xs = z := by rw [e1, sgz_t]
    have hneg : z < 0 := by omega
    have hrow2 := hx.below hb2
    have hx17 : xs.length ≤ 17 := by
      rcases Nat.lt_or_ge 17 xs.length with h' | h'
      · have p1 := norm_low g1 n1 (by omega)
        have p2 := pw_mono (show 16 ≤ xs.length - 1 by omega)
        rw [pw16] at p2
        have p3 := hbt rfl
        rw [half_val] at p3
        omega
      · exact h'
    have hle : val xs ≤ val wholeL := by
      have p3 := hbt rfl
      rw [half_val] at p3
      rw [whole_val, pw16]; omega
    clear hbf hbt hpos hh hr1 hr2 k0 k1 z0 r1 hx e1 B1 hb2 n1
    rcases (show r = 0 ∨ r < 0 by omega) with rfl | hr0
    all_goals
      go_wp2_with (at_make; refine wpList_make_full _ rfl _ _ 45 rfl _ 3 i0 (.int .i64 0) 1 Tryz.underlying45 hi hz0 hz1 _ _ _ _ 17 rfl rfl rfl rfl (by rw [hz2]; decide) (by decide) (Nat.le_refl _) ?_; intro w3 hown3 hgrow3; have I3 := prodI_made hown3 hgrow3 16; have f16 := I3.fz 16; have k16 := I3.cell (j := 16) (by decide))
      have I4 : ProdI w2 17 17 (w3.setCell ⟨w2.heap.size, 16, none⟩ (.int .i64 1)) wholeL := I3.set (m' := 17) (j := 16) (d := 1) (by decide) (by decide) (by decide) (by decide)
      generalize w3.setCell ⟨w2.heap.size, 16, none⟩ (.int .i64 1) = w4 at I4
      refine (less_c (RowK.own0 I4.own) (hrow2.below I4.bel) whole_good g1 hx17 hle (by decide)).mono ?_
      rintro e w5 ⟨v5, rfl, ⟨ds, hrow, gz, nz, vz⟩, hb5⟩
      obtain ⟨a5, c5, rfl, hc5⟩ := hrow.len
      have hl : ds.length ≤ 16 := by
        rcases Nat.lt_or_ge 16 ds.length with h' | h'
        · have p1 := norm_low gz nz (by omega)
          have p2 := pw_mono (show 16 ≤ ds.length - 1 by omega)
          rw [vz, whole_val] at p1
          omega
        · exact h'
      have hdz : val ds = z + 13407807929942597099574024998205846127479365820592393377723561443721764030073546976801874298166903427690031858186486050853753882811946569946433649006084096 := by
        rw [vz, whole_val, pw16]; omega
      have B5 := next2 (next2 B2 I4.bel) hb5
      have hm5 : Below (w.heap.size + 1 + 1) w2 w5 := by
        have p1 := B2.size
        rw [size2] at p1
        have p2 := I4.bel.size
        exact (I4.bel.mono (by omega)).trans (hb5.mono (by omega))
      have y0 := (hm5.cell (p := ⟨w.heap.size + 1, 0, none⟩) (by simp)).trans y0
      have y1 := (hm5.cell (p := ⟨w.heap.size + 1, 1, none⟩) (by simp)).trans y1
      have y2 := (hm5.cell (p := ⟨w.heap.size + 1, 2, none⟩) (by simp)).trans y2
      have y3 := (hm5.cell (p := ⟨w.heap.size + 1, 3, none⟩) (by simp)).trans y3
      have y4 := (hm5.cell (p := ⟨w.heap.size + 1, 4, none⟩) (by simp)).trans y4
      have y5 := (hm5.cell (p := ⟨w.heap.size + 1, 5, none⟩) (by simp)).trans y5
      have y6 := (hm5.cell (p := ⟨w.heap.size + 1, 6, none⟩) (by simp)).trans y6
      have y7 := (hm5.cell (p := ⟨w.heap.size + 1, 7, none⟩) (by simp)).trans y7
      have fz : ∀ j, w5.frozen? ⟨w.heap.size + 1, j, none⟩ = false := fun j => (hm5.frozen (p := ⟨w.heap.size + 1, j, none⟩) (by simp)).trans (fz j)
      have hB := below2 B5
      clear I3 I4 B2 hm5 hb5 hown3 hgrow3 hrow2 vz hle hx17 c0 c1' c1 f15 k15 f16 k16
      have hst := outLoop_start ds w5 26
      go_wp2
      go_loopw [9] (OutLoop ds w5) (fun i _ => ds.length - (intOf i).toNat)
      case atStart => exact hst
      case round =>
        obtain ⟨k, rfl, hk, bel, hc, hf⟩ := hrel
        by_cases hkl : k < ds.length
        · obtain ⟨b', o', rfl, hb', hcx⟩ := hrow.cell hkl
          have hx := (bel.cell (p := ⟨b', o' + k, none⟩) hb').trans hcx
          obtain ⟨x0, x1⟩ := good_getD gz k
          have hcq := hc (k / 2) (by omega)
          have hfq := hf (k / 2)
          rcases Nat.mod_two_eq_zero_or_one k with hm | hm
          · obtain ⟨q, rfl⟩ : ∃ q, k = 2 * q := ⟨k / 2, by omega⟩
            rw [show 2 * q / 2 = q by omega, pairAt_even.1] at hcq
            rw [show 2 * q / 2 = q by omega] at hfq
            have hq8 : q < 8 := by omega
            have N := fun v hv => outLoop_next (ds := ds) (q := q) (v := v) (by omega) hkl bel hc hf hq8 hv
            rw [pairAt_even.2] at N
            clear hc hf hcx
            generalize hxv : ds.getD (2 * q) 0 = x at *
            go_wp2
            have E1 : IntKind.i64.wrap ((2 * (q : Int)).tdiv 2) = q := by rw [Int.tdiv_eq_ediv_of_nonneg (by omega), IntWalk.i64_in _ (by omega)]; omega
            have E2 : (2 * (q : Int)).tmod 2 = 0 := by rw [Int.tmod_eq_emod_of_nonneg (by omega)]; omega
            have E3 : IntKind.u64.wrap x = x := IntWalk.u64_in _ (by omega)
            have q0 : (0 : Int) ≤ q := by omega
            have q8 : (q : Int) < 8 := by omega
            go_region
            go_wp2
            go_roundw
            case rel => exact N _ rfl _ (by omega)
            case measure => simp [intOf]; omega
          · obtain ⟨q, rfl⟩ : ∃ q, k = 2 * q + 1 := ⟨k / 2, by omega⟩
            rw [show (2 * q + 1) / 2 = q by omega, pairAt_odd.1] at hcq
            rw [show (2 * q + 1) / 2 = q by omega] at hfq
            have hq8 : q < 8 := by omega
            have N := fun v hv => outLoop_next (ds := ds) (q := q) (v := v) (by omega) hkl bel hc hf hq8 hv
            rw [pairAt_odd.2] at N
            obtain ⟨v0, v1⟩ := good_getD gz (2 * q)
            clear hc hf hcx
            generalize hxv : ds.getD (2 * q + 1) 0 = x at *
            generalize hyv : ds.getD (2 * q) 0 = y at *
            go_wp2
            have E1 : IntKind.i64.wrap ((2 * (q : Int) + 1).tdiv 2) = q := by rw [Int.tdiv_eq_ediv_of_nonneg (by omega), IntWalk.i64_in _ (by omega)]; omega
            have E2 : (2 * (q : Int) + 1).tmod 2 = 1 := by rw [Int.tmod_eq_emod_of_nonneg (by omega)]; omega
            have E3 : IntKind.u64.wrap x = x := IntWalk.u64_in _ (by omega)
            have E4 : IntKind.u64.wrap (x * 4294967296) = x * 4294967296 := IntWalk.u64_in _ (by omega)
            have q0 : (0 : Int) ≤ q := by omega
            have q8 : (q : Int) < 8 := by omega
            go_region
            go_wp2
            go_roundw
            case rel => exact N _ (by omega) _ (by omega)
            case measure => simp [intOf]; omega
        · obtain rfl : k = ds.length := by omega
          have v0 := hc 0 (by decide)
          have v1 := hc 1 (by decide)
          have v2 := hc 2 (by decide)
          have v3 := hc 3 (by decide)
          have v4 := hc 4 (by decide)
          have v5 := hc 5 (by decide)
          have v6 := hc 6 (by decide)
          have v7 := hc 7 (by decide)
          have w8 := wpairs8 (ds := ds) (Nat.le_refl _)
          have wv := wpairs_val 8 ds (by omega)
          have wg := wpairs_good 8 gz
          have hw := wint_of (z := z) (wpairs_len 8 ds) wg hz (by rw [wv, if_pos hneg]; exact hdz)
          rw [w8] at wg hw
          clear hc hf w8 wv hrow
          generalize pairAt ds ds.length 0 = p0 at *
          generalize pairAt ds ds.length 1 = p1 at *
          generalize pairAt ds ds.length 2 = p2 at *
          generalize pairAt ds ds.length 3 = p3 at *
          generalize pairAt ds ds.length 4 = p4 at *
          generalize pairAt ds ds.length 5 = p5 at *
          generalize pairAt ds ds.length 6 = p6 at *
          generalize pairAt ds ds.length 7 = p7 at *
          have hbb : w.heap.size + 1 < w5.heap.size := by have := B5.size; rw [size2] at this; omega
          have y0' := (bel.cell (p := ⟨w.heap.size + 1, 0, none⟩) hbb).trans y0
          have y1' := (bel.cell (p := ⟨w.heap.size + 1, 1, none⟩) hbb).trans y1
          have y2' := (bel.cell (p := ⟨w.heap.size + 1, 2, none⟩) hbb).trans y2
          have y3' := (bel.cell (p := ⟨w.heap.size + 1, 3, none⟩) hbb).trans y3
          have y4' := (bel.cell (p := ⟨w.heap.size + 1, 4, none⟩) hbb).trans y4
          have y5' := (bel.cell (p := ⟨w.heap.size + 1, 5, none⟩) hbb).trans y5
          have y6' := (bel.cell (p := ⟨w.heap.size + 1, 6, none⟩) hbb).trans y6
          have y7' := (bel.cell (p := ⟨w.heap.size + 1, 7, none⟩) hbb).trans y7
          have fz' : ∀ j, wr.frozen? ⟨w.heap.size + 1, j, none⟩ = false := fun j => (bel.frozen (p := ⟨w.heap.size + 1, j, none⟩) hbb).trans (fz j)
          have hBr : Below w.heap.size w wr := hB.trans (bel.mono (by omega))
          clear y0 y1 y2 y3 y4 y5 y6 y7 fz hB B5 B0 b0
          go_wp2
          exact bodyPost_ret (v := wordsE [p0, p1, p2, p3, p4, p5, p6, p7] 0) (by simp [results, Tryz.results36, go_sem, wordsE, y0', y1', y2', y3', y4', y5', y6', y7']) rfl ⟨_, rfl, ⟨_, rfl, rfl, wg, hw⟩, below_set8 hBr (Nat.le_succ _) _ _ _ _ _ _ _ _⟩
end Go.Proofs.YtfeapgpjchjphaaGreat
namespace Go.Proofs.YtfeapgpjchjphaaGreat
open Go Go.RowKit Go.Big
attribute [local instance] noAv
theorem nat_words {ws : List Int} (hg : wgood ws) : ∃ ns : List Nat, ws = ns.map (fun n : Nat => (n : Int)) ∧ ∀ n ∈ ns, n < 18446744073709551616 := by
  refine ⟨ws.map Int.toNat, ?_, ?_⟩
  · rw [List.map_map]
    apply List.ext_getElem
    · simp
    · intro i h1 h2
      have := hg _ (List.getElem_mem h1)
      simp; omega
  · intro n hn
    simp only [List.mem_map] at hn
    obtain ⟨x, hx, rfl⟩ := hn
    have := hg x hx
    omega
theorem W_words {ws : List Int} (hl : ws.length = 8) (hg : wgood ws) : W (wint ws) = .agg (ws.map (Value.int .u64)).toArray ∧ fit (wint ws) := by
  obtain ⟨ns, rfl, hn⟩ := nat_words hg
  obtain ⟨a, b, c, d, e, f, g, i, rfl⟩ := list8' ns (by simpa using hl)
  have ga := hn a (by simp)
  have gb := hn b (by simp)
  have gc := hn c (by simp)
  have gd := hn d (by simp)
  have ge := hn e (by simp)
  have gf := hn f (by simp)
  have gg := hn g (by simp)
  have gi := hn i (by simp)
  have hm := magV_build a b c d e f g i ga gb gc gd ge gf gg gi
  have e7 : (List.map (fun n : Nat => (n : Int)) [a, b, c, d, e, f, g, i]).getD 7 0 = (i : Int) := rfl
  have hu : fit (wint (List.map (fun n : Nat => (n : Int)) [a, b, c, d, e, f, g, i])) ∧ un (wint (List.map (fun n : Nat => (n : Int)) [a, b, c, d, e, f, g, i])) = build [a, b, c, d, e, f, g, i] := by
    unfold wint
    rw [e7]
    simp only [List.map_cons, List.map_nil, wval, build, fit, un, P511, P512]
    split <;> omega
  refine ⟨?_, hu.1⟩
  unfold W
  rw [hu.2, hm]
  rfl
set_option maxRecDepth 100000 in
theorem agg_eight {a b c d e f g i a' b' c' d' e' f' g' i' : Nat} (h : Value.agg #[.int .u64 a, .int .u64 b, .int .u64 c, .int .u64 d, .int .u64 e, .int .u64 f, .int .u64 g, .int .u64 i] = .agg #[.int .u64 a', .int .u64 b', .int .u64 c', .int .u64 d', .int .u64 e', .int .u64 f', .int .u64 g', .int .u64 i']) :
    a = a' ∧ b = b' ∧ c = c' ∧ d = d' ∧ e = e' ∧ f = f' ∧ g = g' ∧ i = i' := by
  have h' := congrArg (fun v => match v with | .agg cs => cs.toList | _ => []) h
  simp only [List.cons.injEq, Value.int.injEq, true_and, and_true] at h'
  omega
theorem W_inj {x y : Int} (hx : fit x) (hy : fit y) (h : W x = W y) : x = y := by
  unfold W magV at h
  obtain ⟨k0, k1, k2, k3, k4, k5, k6, k7⟩ := agg_eight h
  have := high_eq (un x) (un y) 0 (un_lt x) (un_lt y) (fun j _ hj => by
    match j, hj with
    | 0, _ => exact k0
    | 1, _ => exact k1
    | 2, _ => exact k2
    | 3, _ => exact k3
    | 4, _ => exact k4
    | 5, _ => exact k5
    | 6, _ => exact k6
    | 7, _ => exact k7) (by decide)
  simp only [Nat.mul_zero, Nat.pow_zero, Nat.div_one] at this
  by_cases h1 : 0 ≤ x <;> by_cases h2 : 0 ≤ y
  · have := un_pos hx h1; have := un_pos hy h2; omega
  · have := un_pos hx h1; have := un_neg hy (by omega); unfold fit P511 P512 at *; omega
  · have := un_neg hx (by omega); have := un_pos hy h2; unfold fit P511 P512 at *; omega
  · have := un_neg hx (by omega); have := un_neg hy (by omega); omega
theorem words_of {x : Int} (hx : fit x) : ∃ a0 a1 a2 a3 a4 a5 a6 a7 : Int, wgood [a0, a1, a2, a3, a4, a5, a6, a7] ∧ wint [a0, a1, a2, a3, a4, a5, a6, a7] = x ∧ W x = .agg #[.int .u64 a0, .int .u64 a1, .int .u64 a2, .int .u64 a3, .int .u64 a4, .int .u64 a5, .int .u64 a6, .int .u64 a7] := by
  have hg : wgood [(dig (un x) 0 : Int), (dig (un x) 1 : Int), (dig (un x) 2 : Int), (dig (un x) 3 : Int), (dig (un x) 4 : Int), (dig (un x) 5 : Int), (dig (un x) 6 : Int), (dig (un x) 7 : Int)] := by
    intro y hy
    have hd := dig_lt (un x)
    have := hd 0; have := hd 1; have := hd 2; have := hd 3; have := hd 4; have := hd 5; have := hd 6; have := hd 7
    simp only [List.mem_cons, List.not_mem_nil, or_false] at hy
    rcases hy with rfl | rfl | rfl | rfl | rfl | rfl | rfl | rfl <;> omega
  obtain ⟨h1, h2⟩ := W_words rfl hg
  refine ⟨_, _, _, _, _, _, _, _, hg, ?_, rfl⟩
  exact W_inj h2 hx (h1.trans rfl)
theorem W_zero8 : Value.tuple #[W 0, .int .i64 6] = wordsE [0, 0, 0, 0, 0, 0, 0, 0] 6 := by kernel_rfl
theorem in_W {w : World} {x : Int} (hx : fit x) : Calls Tryz.prog 41 #[W x] w (Gets (fun w' r => LongV w' r x) w) := by
  obtain ⟨a0, a1, a2, a3, a4, a5, a6, a7, hg, rfl, he⟩ := words_of hx
  rw [he]
  exact in_c a0 a1 a2 a3 a4 a5 a6 a7 hg
theorem out_W {w : World} {u : Value} {z : Int} (h : LongV w u z) (hs : small z) : Calls Tryz.prog 36 #[u] w (Gets (fun _ r => r = resV z (fit z)) w) := by
  by_cases hz : fit z
  · have hf : fits z := by unfold fits; unfold fit P511 at hz; omega
    refine (out_fit h hs hf).mono fun e w' ⟨r, he, ⟨ws, hr, hl, hg, hw⟩, hb⟩ => ⟨r, he, ?_, hb⟩
    have := W_words hl hg
    rw [hw] at this
    unfold resV outV
    rw [if_pos hz, this.1, hr]
    rfl
  · have hf : ¬ fits z := by unfold fits; unfold fit P511 at hz; omega
    refine (out_big h hs hf).mono fun e w' ⟨r, he, hr, hb⟩ => ⟨r, he, ?_, hb⟩
    unfold resV
    rw [if_neg hz, hr]
    unfold bigV
    rw [W_zero8]
end Go.Proofs.YtfeapgpjchjphaaGreat
namespace Go.Proofs.YtfeapgpjchjphaaGreat
open Go Go.RowKit Go.Big
attribute [local instance] noAv
theorem pw64_big : 13407807929942597099574024998205846127479365820592393377723561443721764030073546976801874298166903427690031858186486050853753882811946569946433649006084096 ≤ pw 64 := by
  rw [← pw16]; exact pw_mono (by decide)
theorem small_fit {x : Int} (h : fit x) : small x := by
  have := pw64_big
  unfold small; unfold fit P511 at h; omega
theorem fit_i64 {n : Int} (h0 : -9223372036854775808 ≤ n) (h1 : n ≤ 9223372036854775807) : fit n := by unfold fit P511; omega
theorem long_zero (w : World) : LongV w (.agg #[.bool false, .slice none 0 0]) 0 := ⟨false, _, [], rfl, (RowK.nil fun _ h => h.elim), good_nil, (fun h => absurd h (Nat.lt_irrefl _)), (fun h => absurd h (by decide)), rfl⟩
set_option maxHeartbeats 400000 in
set_option maxRecDepth 100000 in
theorem refOf_c {w : World} (n : Int) (h0 : -9223372036854775808 ≤ n) (h1 : n ≤ 9223372036854775807) : Calls Tryz.prog 10 #[.int .i64 n] w (Gets (fun _ r => r = W n) w) := by
  have hf := fit_i64 h0 h1
  obtain ⟨a0, a1, a2, a3, a4, a5, a6, a7, hg, hw, he⟩ := words_of hf
  have b0 := fun o1 : Obj => Below.refl (w.heap.size + 1) (w.alloc o1)
  go_enter Tryz.func10, Tryz.ntmps10
  go_wp2_with fail
  refine (long1_0 n h0 h1).mono ?_
  rintro e w1 ⟨d, rfl, hd, hb⟩
  have b1 := next1 (b0 _) hb
  go_wp2_with fail
  refine (out_W hd (small_fit hf)).mono ?_
  rintro e w2 ⟨r, rfl, rfl, hb2⟩
  have b2 := next1 b1 hb2
  have k0 := (b2.block w.heap.size (by omega)).trans (MapKept.heap_alloc w _).1
  have hB := below1 b2
  have hsz : w.heap.size < w2.heap.size := by have := b2.size; simp at this; omega
  unfold resV outV
  rw [if_pos hf, he]
  have y0 : w2.cell? ⟨w.heap.size, 0, none⟩ = some (.int .u64 0) := (cellOf (j := 0) k0).trans rfl
  have y1 : w2.cell? ⟨w.heap.size, 1, none⟩ = some (.int .u64 0) := (cellOf (j := 1) k0).trans rfl
  have y2 : w2.cell? ⟨w.heap.size, 2, none⟩ = some (.int .u64 0) := (cellOf (j := 2) k0).trans rfl
  have y3 : w2.cell? ⟨w.heap.size, 3, none⟩ = some (.int .u64 0) := (cellOf (j := 3) k0).trans rfl
  have y4 : w2.cell? ⟨w.heap.size, 4, none⟩ = some (.int .u64 0) := (cellOf (j := 4) k0).trans rfl
  have y5 : w2.cell? ⟨w.heap.size, 5, none⟩ = some (.int .u64 0) := (cellOf (j := 5) k0).trans rfl
  have y6 : w2.cell? ⟨w.heap.size, 6, none⟩ = some (.int .u64 0) := (cellOf (j := 6) k0).trans rfl
  have y7 : w2.cell? ⟨w.heap.size, 7, none⟩ = some (.int .u64 0) := (cellOf (j := 7) k0).trans rfl
  have fz : ∀ j, w2.frozen? ⟨w.heap.size, j, none⟩ = false := fun j => frozenOf k0
  clear hd hb hb2 b1 b2 k0 b0 hw
  go_wp2
  exact bodyPost_ret (v := .agg #[.int .u64 a0, .int .u64 a1, .int .u64 a2, .int .u64 a3, .int .u64 a4, .int .u64 a5, .int .u64 a6, .int .u64 a7]) (by simp [results, Tryz.results10, go_sem, y0, y1, y2, y3, y4, y5, y6, y7, hsz]) rfl ⟨_, rfl, he.symm, (below_set8 hB (Nat.le_refl _) _ _ _ _ _ _ _ _).alloc (by simpa using hB.size) _⟩
end Go.Proofs.YtfeapgpjchjphaaGreat
namespace Go.Proofs.YtfeapgpjchjphaaGreat
open Go Go.RowKit Go.Big
attribute [local instance] noAv
theorem small_zero : small 0 := by have := pw_pos 64; unfold small; omega
set_option maxHeartbeats 400000 in
set_option maxRecDepth 100000 in
theorem refSign_c {w : World} {x : Int} (hx : fit x) : Calls Tryz.prog 40 #[W x] w (Gets (fun _ r => r = .int .i64 (ordI x 0)) w) := by
  obtain ⟨a0, a1, a2, a3, a4, a5, a6, a7, hg, rfl, he⟩ := words_of hx
  rw [he]
  have hs := small_fit hx
  generalize hv : wint [a0, a1, a2, a3, a4, a5, a6, a7] = x at *
  have b0 := fun o1 : Obj => Below.refl (w.heap.size + 1) (w.alloc o1)
  have hin := fun W => in_c (w := W) a0 a1 a2 a3 a4 a5 a6 a7 hg
  rw [hv] at hin
  clear he hv hx
  go_enter Tryz.func40, Tryz.ntmps40
  go_wp2_with fail
  refine (hin _).mono ?_
  rintro e w1 ⟨d, rfl, hd, hb⟩
  have b1 := next1 (b0 _) hb
  go_wp2_with fail
  refine (order_l hd (long_zero w1) hs small_zero).mono ?_
  rintro e w2 ⟨r, rfl, rfl, hb2⟩
  have b2 := next1 b1 hb2
  have hB := below1 b2
  clear hd hin
  go_wp2
  go_ret
  exact ⟨_, rfl, rfl, hB⟩
/-- Eight cells of a block. -/
theorem eight_cells {W : World} {b : Nat} {c0 c1 c2 c3 c4 c5 c6 c7 : Value} {t : TypeId} (h : W.heap[b]? = some (.cells #[c0, c1, c2, c3, c4, c5, c6, c7] t (0, 0))) :
    W.cell? ⟨b, 0, none⟩ = some c0 ∧ W.cell? ⟨b, 1, none⟩ = some c1 ∧ W.cell? ⟨b, 2, none⟩ = some c2 ∧ W.cell? ⟨b, 3, none⟩ = some c3 ∧ W.cell? ⟨b, 4, none⟩ = some c4 ∧ W.cell? ⟨b, 5, none⟩ = some c5 ∧ W.cell? ⟨b, 6, none⟩ = some c6 ∧ W.cell? ⟨b, 7, none⟩ = some c7 :=
  ⟨(cellOf h).trans rfl, (cellOf h).trans rfl, (cellOf h).trans rfl, (cellOf h).trans rfl, (cellOf h).trans rfl, (cellOf h).trans rfl, (cellOf h).trans rfl, (cellOf h).trans rfl⟩
theorem sixteen {w W : World} {a0 a1 a2 a3 a4 a5 a6 a7 c0 c1 c2 c3 c4 c5 c6 c7 : Value} {t t' : TypeId} (h : Below (w.heap.size + 1 + 1) ((w.alloc (.cells #[a0, a1, a2, a3, a4, a5, a6, a7] t)).alloc (.cells #[c0, c1, c2, c3, c4, c5, c6, c7] t')) W) :
    W.cell? ⟨w.heap.size, 0, none⟩ = some a0 ∧ W.cell? ⟨w.heap.size, 1, none⟩ = some a1 ∧ W.cell? ⟨w.heap.size, 2, none⟩ = some a2 ∧ W.cell? ⟨w.heap.size, 3, none⟩ = some a3 ∧ W.cell? ⟨w.heap.size, 4, none⟩ = some a4 ∧ W.cell? ⟨w.heap.size, 5, none⟩ = some a5 ∧ W.cell? ⟨w.heap.size, 6, none⟩ = some a6 ∧ W.cell? ⟨w.heap.size, 7, none⟩ = some a7 ∧
    W.cell? ⟨w.heap.size + 1, 0, none⟩ = some c0 ∧ W.cell? ⟨w.heap.size + 1, 1, none⟩ = some c1 ∧ W.cell? ⟨w.heap.size + 1, 2, none⟩ = some c2 ∧ W.cell? ⟨w.heap.size + 1, 3, none⟩ = some c3 ∧ W.cell? ⟨w.heap.size + 1, 4, none⟩ = some c4 ∧ W.cell? ⟨w.heap.size + 1, 5, none⟩ = some c5 ∧ W.cell? ⟨w.heap.size + 1, 6, none⟩ = some c6 ∧ W.cell? ⟨w.heap.size + 1, 7, none⟩ = some c7 := by
  obtain ⟨h1, h2⟩ := heap2 w (.cells #[a0, a1, a2, a3, a4, a5, a6, a7] t) (.cells #[c0, c1, c2, c3, c4, c5, c6, c7] t')
  obtain ⟨k0, k1, k2, k3, k4, k5, k6, k7⟩ := eight_cells ((h.block w.heap.size (by omega)).trans h1)
  obtain ⟨m0, m1, m2, m3, m4, m5, m6, m7⟩ := eight_cells ((h.block (w.heap.size + 1) (by omega)).trans h2)
  exact ⟨k0, k1, k2, k3, k4, k5, k6, k7, m0, m1, m2, m3, m4, m5, m6, m7⟩
end Go.Proofs.YtfeapgpjchjphaaGreat
