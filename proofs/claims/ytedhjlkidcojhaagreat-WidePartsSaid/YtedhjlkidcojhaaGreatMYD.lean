/-
  The reference's parts: the loops.
-/
import Derived.Test.YtedhjlkidcojhaaGreatMYC
set_option linter.all false
namespace Go.Proofs.YtedhjlkidcojhaaGreat
open Go Go.RowKit Go.Big
attribute [local instance] noAv
set_option maxHeartbeats 3200000 in
set_option maxRecDepth 100000 in
theorem parts_big {w : World} {v u : Value} {xs ys : List Int} (h1 : RowK .i64 w v xs) (h2 : RowK .i64 w u ys) (g1 : good xs) (g2 : good ys) (n1 : norm xs) (n2 : norm ys) (s1 : xs.length ≤ 1000) (s2 : ys.length ≤ 1000) (h0 : 0 < ys.length) (hge : ys.length ≤ xs.length) :
    Calls Tryz.prog 90 #[v, u] w (Gets (PartsV (val xs) (val ys)) w) := by
  obtain ⟨i0, hi, hz0, hz1, hz2⟩ := info_parts Tryz.info3
  obtain ⟨a', c', rfl, hc'⟩ := h2.len
  rcases h1 with ⟨-, rfl, -⟩ | ⟨b, o, cap, rfl, hcap, hb, hc, -⟩
  · exact absurd (Nat.lt_of_lt_of_le h0 hge) (Nat.lt_irrefl _)
  have h1 : RowK .i64 w (.slice (some ⟨b, o, none⟩) xs.length cap) xs := .inr ⟨b, o, cap, rfl, hcap, hb, hc, id, fun _ h => h.elim⟩
  obtain ⟨m, hm⟩ : ∃ m : Nat, m = ys.length - 1 := ⟨_, rfl⟩
  obtain ⟨n, hn⟩ : ∃ n : Nat, n = xs.length - m := ⟨_, rfl⟩
  have hmn : xs.length = n + m := by omega
  have hn0 : 0 < n := by omega
  have hM : ys.length = m + 1 := by omega
  have hn1000 : n ≤ 1000 := by omega
  have hY1 : pw m ≤ val ys := by have := norm_low g2 n2 h0; rwa [hM, Nat.add_sub_cancel] at this
  have hY2 : val ys < pw (m + 1) := by have := (val_bounds g2).2; rwa [hM] at this
  have hnews : ∀ W, Below w.heap.size w W → ∀ j u, ((xs.drop n).map (Value.int .i64))[j]? = some u → W.cell? ((⟨b, o + n, none⟩ : Addr).add j) = some u := by
    intro W hW j u hj
    rw [List.getElem?_map, List.getElem?_drop, ← List.getElem?_map] at hj
    have := (row_news h1).2.2.2 (n + j) u hj
    rw [Addr.add_lit] at this ⊢
    rw [← Nat.add_assoc] at this
    exact (hW.cell (p := ⟨b, o + n + j, none⟩) hb).trans this
  generalize hLx : xs.length = L at *
  generalize hMy : ys.length = M at *
  obtain rfl : L = n + m := hmn
  obtain rfl : M = m + 1 := hM
  clear hm hn hge h0
  go_enter Tryz.func90, Tryz.ntmps90
  go_wp2_with (at_make; refine wpList_make_full _ rfl _ _ 62 rfl w.heap.size 3 i0 (.int .i64 0) 1 Tryz.underlying62 hi hz0 hz1 _ _ _ _ n rfl rfl rfl rfl (by rw [hz2]; omega) (by unfold maxLen; omega) (Nat.le_refl _) ?_)
  intro w0 hown0 hgrow0
  rw [made_zeros] at hown0
  have I0 : ProdI w n n w0 (List.replicate n 0) := ⟨hown0, by simp, good_zeros n, fun t _ => getD_zeros n t, (Below.refl _ _).grown hgrow0 (Nat.le_refl _) (fun k h => by cases h)⟩
  clear hown0 hgrow0
  have hs0 := I0.lt
  have hb0 := I0.bel
  have hl0 : (xs.drop n).length = m := by rw [List.length_drop, hLx]; omega
  by_cases hcn : cap = n
  go_wp2_with (at_builtin; revert hcn)
  intro hcn
  have hm0 : m = 0 := by omega
  have hnil : xs.drop n = [] := List.eq_nil_of_length_eq_zero (by omega)
  refine wpList_append_own _ rfl _ _ 62 rfl w0.heap.size 3 i0 (.int .i64 0) 1 8 Tryz.underlying62 hi hz0 hz1 hz2 rfl (by decide) _ 0 [] rfl (own_blank w0) ⟨b, o, none⟩ m 0 ((xs.drop n).map (Value.int .i64)) rfl (by rw [List.length_map, hl0]; omega) (by rw [hnil]; intro j u hj; simp at hj) (ints_ones _) (by unfold maxLen; omega) (by omega) (by simp) ?_
  clear hm0 hnil
  rotate_left 1
  intro hcn
  refine wpList_append_own _ rfl _ _ 62 rfl w0.heap.size 3 i0 (.int .i64 0) 1 8 Tryz.underlying62 hi hz0 hz1 hz2 rfl (by decide) _ 0 [] rfl (own_blank w0) ⟨b, o + n, none⟩ m (cap - n) ((xs.drop n).map (Value.int .i64)) rfl (by rw [List.length_map, hl0]; omega) (hnews _ (hb0.alloc hb0.size _)) (ints_ones _) (by unfold maxLen; omega) (by omega) (by simp) ?_
  rotate_left 1
  all_goals
    intro v' w3 hown' hgrow3 hnil3
    rw [Nat.zero_add, List.nil_append] at hown'
    have hb3 : Below w0.heap.size w0 w3 := ((Below.refl w0.heap.size w0).alloc (Nat.le_refl _) _).grown hgrow3 (by simp) (own_base (own_blank w0))
    have I3 := I0.go hb3
    have hrow : @RowK (avq w.heap.size) .i64 w3 v' (xs.drop n) := @RowK.of_owns (avq w.heap.size) _ _ _ _ _ _ _ (fun g hg => by rw [show g = w.heap.size from hg]; exact hs0) hb3.size (by rw [← hl0] at hown'; exact hown')
    have hdig : @DigV (avq w.heap.size) (val (xs.drop n)) w3 v' := ⟨_, hrow, good_drop g1 n, norm_drop n1 n, rfl⟩
    have hlt : val (xs.drop n) < val ys := by
      have := (val_bounds (good_drop g1 n)).2
      rw [hl0] at this; omega
    have hge0 := (val_bounds (good_drop g1 n)).1
    have hb4 : Below w.heap.size w w3 := I3.bel
    clear hown' hgrow3 hnil3 hrow hnews hb3 I0 hs0 hb0 hcn
    go_wp2
    go_loopw [8, 9] (PtOut w n xs (val ys)) (fun _ i _ => (intOf i + 1).toNat)
    case atStart =>
      exact ⟨n, List.replicate n 0, _, rfl, Nat.le_refl _, ⟨I3, fun t _ => getD_zeros n t, ⟨0, by rw [Int.zero_mul, Int.zero_add], by rw [val_zeros, Int.zero_mul]⟩, hge0, hlt⟩, hdig⟩
    case round =>
      clear hdig hge0 hlt I3 hb4
      obtain ⟨p, os, r, rfl, hp, O, hdig⟩ := hrel
      by_cases hp0 : 0 < p
      · obtain ⟨p, rfl⟩ : ∃ q, p = q + 1 := ⟨p - 1, by omega⟩
        have e1 : ((p + 1 : Nat) : Int) - 1 = (p : Int) := by omega
        rw [e1]
        clear e1
        have hpx : p < xs.length := by omega
        obtain ⟨x0, x1⟩ := good_getD g1 p
        have hM := val_drop hpx
        go_wp2
        go_loopw [8, 10] (PtIn w n p (val (xs.drop p)) (val ys)) (fun _ i _ => (intOf i + 1).toNat)
        case atStart =>
          exact ⟨32, os, r, rfl, Nat.le_refl _, by rw [hM]; exact pt_in O x0 x1, hdig⟩
        case round =>
          clear O hdig
          obtain ⟨q, os, r, rfl, hq, F, hdig⟩ := hrel
          by_cases hq0 : 0 < q
          · obtain ⟨q, rfl⟩ : ∃ r, q = r + 1 := ⟨q - 1, by omega⟩
            have e1 : ((q + 1 : Nat) : Int) - 1 = (q : Int) := by omega
            rw [e1]
            clear e1
            have I := F.I
            obtain ⟨d0, d1, b0', b1⟩ := pt_room F (by omega)
            have hbit := pt_bit (x := xs.getD p 0) (V := val (xs.drop (p + 1))) (q := q) (by omega)
            rw [← hM] at hbit
            have cx : wr.cell? ⟨b, o + p, none⟩ = some (.int .i64 (xs.getD p 0)) := (I.bel.cell (p := ⟨b, o + p, none⟩) hb).trans (hc p (by omega))
            obtain ⟨rs, hr, gr, nr, vr⟩ := hdig
            obtain ⟨ar, cr, rfl, hcr⟩ := @RowK.len (avq w.heap.size) _ _ _ _ hr
            have hM' := Lib.hid hM
            clear hM
            generalize xs.getD p 0 = x at *
            have q1 : (q : Int) ≤ 31 := by omega
            go_wp2_with fail
            have hxq : 0 ≤ x / 2 ^ q := Int.ediv_nonneg x0 (Int.le_of_lt (two_pow_pos q))
            rw [Int.tmod_eq_emod_of_nonneg hxq]
            obtain ⟨bt, hbt⟩ : ∃ bt, x / 2 ^ q % 2 = bt := ⟨_, rfl⟩
            have t0 : 0 ≤ bt := by omega
            have t1 : bt ≤ 1 := by omega
            rw [hbt] at hbit ⊢
            clear hbt hxq
            have v0' := F.v0
            have v1' := F.v1
            have lr : rs.length ≤ m + 1 := by
              have := dig_len_le gr nr g2 (by rw [vr]; omega)
              rwa [hMy] at this
            refine (@twice_c (avq w.heap.size) _ _ _ _ hr gr t0 t1 (by omega)).mono ?_
            rintro e w4 ⟨v4, rfl, ⟨zs, hr4, g4, n4, vz⟩, hb4⟩
            rw [vr] at vz
            have I4 := I.go hb4
            obtain ⟨a4, c4, rfl, hc4⟩ := @RowK.len (avq w.heap.size) _ _ _ _ hr4
            have hy4 := row_avq h2 I4.bel I4.lt
            have l4 : zs.length ≤ m + 2 := by
              apply dig_len g4 n4
              have := pw_pos (m + 1)
              rw [vz, pw_succ]; omega
            clear hr hb4
            go_wp2_with fail
            refine (@order_c (avq w.heap.size) _ _ _ _ _ hr4 hy4 g4 g2 n4 n2 (by omega) (by omega)).mono ?_
            rintro e w5 ⟨x5, rfl, ⟨ro, rfl, ho1, ho2⟩, hb5⟩
            have I5 := I4.go hb5
            have hr5 := @RowK.below (avq w.heap.size) _ _ _ _ _ hr4 hb5
            have hy5 := row_avq h2 I5.bel I5.lt
            clear hr4 hy4 hb5 I4
            by_cases hle : val ys ≤ val zs
            · have hro : 0 ≤ ro := by omega
              have hlen : m + 1 ≤ zs.length := by
                have := dig_len_le g2 n2 g4 hle
                rwa [hMy] at this
              clear ho1 ho2
              go_wp2_with fail
              refine (@less_c (avq w.heap.size) _ _ _ _ _ hr5 hy5 g4 g2 (by rw [hMy]; exact hlen) hle (by omega)).mono ?_
              rintro e w6 ⟨v6, rfl, hd6, hb6⟩
              rw [vz] at hd6 hle
              have I6 := I5.go hb6
              clear hr5 hy5 hb6 I5
              have hcell := I6.cell (j := p) (by omega)
              have hfz := I6.fz p
              have I7 : ProdI w n n (w6.drew.setCell ⟨w.heap.size, p, none⟩ (.int .i64 (os.getD p 0 + 2 ^ q))) (os.set p (os.getD p 0 + 2 ^ q)) := ProdI.set (m := n) (m' := n) (j := p) (d := os.getD p 0 + 2 ^ q) ((I6.drewN 1 : ProdI w n n (w6.drewN 1) os)) (by omega) (Nat.le_refl _) (by omega) d1
              have P7 := pt_take F (by omega) I7 t1 hle
              rw [← hbit] at P7
              have hd7 : @DigV (avq w.heap.size) (2 * r + bt - val ys) (w6.drew.setCell ⟨w.heap.size, p, none⟩ (.int .i64 (os.getD p 0 + 2 ^ q))) v6 := dig_set (w := w6.drew) hd6 _
              have hfin : PtIn w n p (val (xs.drop p)) (val ys) v6 (.int .i64 ((q : Int) - 1)) (w6.drew.setCell ⟨w.heap.size, p, none⟩ (.int .i64 (os.getD p 0 + 2 ^ q))) := ⟨q, _, _, rfl, by omega, P7, hd7⟩
              clear P7 hd7 I7 I6 F I hd6 hle hbit vz v0' v1' vr
              generalize os.getD p 0 = d at *
              have q0 : (0 : Int) ≤ (q : Int) := by omega
              have p0 : (0 : Int) ≤ (p : Int) := by omega
              have p1 : (p : Int) < (n : Int) := by omega
              have p2 : p < n := by omega
              have u1 : IntKind.i64.wrap ((2 : Int) ^ q) = (2 : Int) ^ q := by rw [IntKind.wrap_i64]; omega
              have u2 : IntKind.i64.wrap (d + (2 : Int) ^ q) = d + (2 : Int) ^ q := by rw [IntKind.wrap_i64]; omega
              have u3 : IntKind.i64.wrap (p : Int) = p := by rw [IntKind.wrap_i64]; omega
              have hcell' : w6.drew.cell? ⟨w.heap.size, p, none⟩ = some (.int .i64 d) := hcell
              have hfz' : w6.drew.frozen? ⟨w.heap.size, p, none⟩ = false := hfz
              go_wp2
              go_still_tail 10, (by kernel_rfl)
              change wpList _ _ _ _ _ w6.drew
              generalize w6.drew = w7 at *
              go_wp2
              go_roundw
              case rel => exact hfin
              case measure => simp [intOf]
            · have hro : ro < 0 := by omega
              rw [vz] at hle
              have P7 := pt_keep F I5 t0 (by omega)
              rw [← hbit] at P7
              have hfin : PtIn w n p (val (xs.drop p)) (val ys) (.slice a4 zs.length c4) (.int .i64 ((q : Int) - 1)) w5 := ⟨q, _, _, rfl, by omega, P7, ⟨zs, hr5, g4, n4, vz⟩⟩
              clear P7 I5 F I hr5 hy5 hle hbit vz v0' v1' vr ho1 ho2 d0 d1 b0' b1
              go_wp2
              go_roundw
              case rel => exact hfin
              case measure => simp [intOf]
          · obtain rfl : q = 0 := by omega
            have hout : PtOut w n xs (val ys) _ (.int .i64 ((p : Int) - 1)) wr := ⟨p, os, _, rfl, by omega, pt_out F, hdig⟩
            have e1 : ((0 : Nat) : Int) - 1 = -1 := by omega
            rw [e1]
            clear e1 F hdig
            go_wp2
            go_roundw
            case rel => exact hout
            case measure => simp [intOf]
      · obtain rfl : p = 0 := by omega
        have e1 : ((0 : Nat) : Int) - 1 = -1 := by omega
        rw [e1]
        clear e1
        have I := O.I
        have hrow : RowK .i64 wr (.slice (some ⟨w.heap.size, 0, none⟩) n n) os := RowK.own0 I.own
        have hg := I.gd
        have hlen := I.len
        have bel := I.bel
        obtain ⟨Q, q1, q2⟩ := O.eq
        rw [List.drop_zero] at q1
        rw [show pw 0 = 1 from rfl, Int.mul_one] at q2
        obtain ⟨z1, z2⟩ := div_unique q1 O.v0 O.v1
        have hdig := dig_forget hdig
        clear I O q1
        go_wp2_with fail
        refine (cut_c hrow (by omega)).mono ?_
        rintro e w4 ⟨v4, k, rfl, hk, hr4, hz4, hn4, rfl⟩
        have hr4 := hr4 _ hrow
        have hv4 := val_cut hz4
        have hres : PartsV (val xs) (val ys) w4 (.tuple #[v4, _]) := ⟨_, _, rfl, ⟨_, hr4, good_take hg k, hn4, by rw [hv4, q2, z1]⟩, by rw [← z2]; exact hdig⟩
        clear hrow hr4 hz4 hn4 hdig z1 z2 hv4 hk q2
        go_wp2
        go_ret2
        exact ⟨_, rfl, hres, bel⟩
end Go.Proofs.YtedhjlkidcojhaaGreat
