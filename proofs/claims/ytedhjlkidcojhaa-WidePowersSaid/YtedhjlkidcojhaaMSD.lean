/-
  The reference's Floor: the loops.
-/
import Derived.Test.YtedhjlkidcojhaaMSC
set_option linter.all false
namespace Go.Proofs.Ytedhjlkidcojhaa
open Go Go.Rx Go.RowKit Go.Big
attribute [local instance] noAv
theorem own_empty (w : World) : (w.alloc (.cells #[] 3)).ownsRow w.heap.size 3 1 (.slice (some ⟨w.heap.size, 0, none⟩) 0 0) 0 [] :=
  ⟨rfl, .inr ⟨w.heap.size, 0, #[], rfl, Nat.le_refl _, (MapKept.heap_alloc w (.cells #[] 3)).1, Nat.le_refl _, Nat.zero_le _, rfl, rfl⟩⟩
theorem prod_cells {w wr : World} {n m : Nat} {os : List Int} (h : ProdI w n m wr os) (o : Obj) : ∀ (j : Nat) (u : Value), (os.map (Value.int .i64))[j]? = some u → (wr.alloc o).cell? ((⟨w.heap.size, 0, none⟩ : Addr).add j) = some u := by
  intro j u hj
  have hlen := h.len
  have hjn : j < os.length := by
    rcases Nat.lt_or_ge j os.length with h1 | h1
    · exact h1
    · rw [List.getElem?_eq_none (by simpa using h1)] at hj; cases hj
  have h2 := (h.next ((Below.refl wr.heap.size wr).alloc (Nat.le_refl _) o)).cell (j := j) (by omega)
  rw [Addr.add_lit, Nat.zero_add, h2]
  simpa [List.getD, hjn] using hj
theorem ints_one (os : List Int) : ∀ u ∈ os.map (Value.int .i64), u.oneCell' = true := by
  intro u hu
  obtain ⟨x, -, rfl⟩ := List.mem_map.1 hu
  rfl
theorem prodz_len {xs ys zs : List Int} (g : good zs) (n : norm zs) (h : val zs = val xs * val ys) (gx : good xs) (gy : good ys) (lx : xs.length ≤ 262144) (ly : ys.length ≤ 262144) : zs.length ≤ 1048576 := by
  rcases Nat.lt_or_ge 1048576 zs.length with h1 | h1
  · exfalso
    have h2 := norm_low g n (by omega)
    have h3 := pw_mono (show xs.length + ys.length ≤ zs.length - 1 by omega)
    rw [pw_add] at h3
    have h4 := val_bounds gx
    have h5 := val_bounds gy
    have h6 := Int.mul_le_mul (Int.le_of_lt h4.2) (Int.le_of_lt h5.2) h5.1 (Int.le_of_lt (pw_pos _))
    have h7 : val xs * val ys < pw xs.length * pw ys.length := by
      have := Int.mul_le_mul_of_nonneg_left (Int.le_of_lt h5.2) h4.1
      have := Int.mul_lt_mul_of_pos_right h4.2 (pw_pos ys.length)
      omega
    omega
  · exact h1
def FlOut (wb : World) (n : Nat) (z : Int) (i : Value) (wr : World) : Prop :=
  ∃ (p : Nat) (os : List Int), i = .int .i64 ((p : Int) - 1) ∧ p ≤ n ∧ ProdI wb n n wr os ∧ (∀ t, t < p → os.getD t 0 = 0) ∧ val os * val os ≤ z ∧ z < (val os + pw p) * (val os + pw p)
def FlIn (wb : World) (n p : Nat) (z : Int) (k : Value) (wr : World) : Prop :=
  ∃ (q : Nat) (os : List Int), k = .int .i64 ((q : Int) - 1) ∧ q ≤ 32 ∧ FlI wb n p q z wr os
set_option maxHeartbeats 1600000 in
set_option maxRecDepth 100000 in
theorem floor_c {w : World} {s : Value} {xs : List Int} {z : Int} (r1 : RowK .i64 w s xs) (gx : good xs) (nx : norm xs) (hz : z = val xs) (hl : xs.length ≤ 64) : Calls Try.prog 46 #[.agg #[.bool false, s]] w (Gets (fun w' r => ∃ q, LongV w' r q ∧ 0 ≤ q ∧ q * q ≤ z ∧ z < (q + 1) * (q + 1)) w) := by
  obtain ⟨i0, hi, hz0, hz1, hz2⟩ := info_parts Try.info3
  obtain ⟨a, c, rfl, hc⟩ := r1.len
  obtain ⟨n, hn⟩ : ∃ n : Nat, n = (xs.length + 1) / 2 := ⟨_, rfl⟩
  generalize hL : xs.length = L at *
  obtain ⟨k1, k2⟩ := heap2 w (.cells #[.bool false, .slice a L c] 75) (.cells #[.bool false, .slice none 0 0] 75)
  have b0 := fun o1 o2 : Obj => Below.refl (w.heap.size + 1 + 1) ((w.alloc o1).alloc o2)
  have bw : Below w.heap.size w ((w.alloc (.cells #[.bool false, .slice a L c] 75)).alloc (.cells #[.bool false, .slice none 0 0] 75)) := ((Below.refl _ _).alloc (Nat.le_refl _) _).alloc (by simp) _
  have hbs : ((w.alloc (.cells #[.bool false, .slice a L c] 75)).alloc (.cells #[.bool false, .slice none 0 0] 75)).heap.size = w.heap.size + 1 + 1 := by simp
  go_enter Try.func46, Try.ntmps46
  have hn' := Lib.hid hn
  clear hn
  go_wp2_with (at_make; refine wpList_make_full _ rfl _ _ 73 rfl (w.heap.size + 1 + 1) 3 i0 (.int .i64 0) 1 Try.underlying73 hi hz0 hz1 _ _ _ _ ((L + 1) / 2) rfl rfl rfl rfl (by rw [hz2]; omega) (by unfold maxLen; omega) (by rw [hbs]; exact Nat.le_refl _) ?_)
  have hni : ((L : Int) + 1) / 2 = (n : Int) := by have := hn'.out; omega
  rw [hni, ← hn'.out]
  generalize hwb : (w.alloc (.cells #[.bool false, .slice a L c] 75)).alloc (.cells #[.bool false, .slice none 0 0] 75) = wb at *
  rw [← hbs]
  have hbs' := Lib.hid hbs
  clear hbs
  intro w0 hown0 hgrow0
  have hL2 : L ≤ n + n := by have := hn'.out; omega
  have hn64 : n ≤ 64 := by have := hn'.out; omega
  clear hni
  rw [made_zeros] at hown0
  have I0 : ProdI wb n n w0 (List.replicate n 0) := ⟨hown0, by simp, good_zeros n, fun t _ => getD_zeros n t, (Below.refl _ _).grown hgrow0 (Nat.le_refl _) (fun k h => by cases h)⟩
  clear hown0 hgrow0
  go_wp2
  go_loopw [5] (FlOut wb n z) (fun i _ => (intOf i + 1).toNat)
  case atStart =>
    refine ⟨n, List.replicate n 0, rfl, Nat.le_refl _, I0, fun t _ => getD_zeros _ _, ?_, ?_⟩
    · rw [val_zeros]; have := (val_bounds gx).1; omega
    · rw [val_zeros]
      have h1 := (val_bounds gx).2
      have h2 := pw_mono (show xs.length ≤ n + n by omega)
      rw [pw_add] at h2
      rw [Int.zero_add]; omega
  case round =>
    obtain ⟨p, os, rfl, hp, I, hlow, hle, hlt⟩ := hrel
    by_cases hp0 : 0 < p
    · obtain ⟨p, rfl⟩ : ∃ q, p = q + 1 := ⟨p - 1, by omega⟩
      have e1 : ((p + 1 : Nat) : Int) - 1 = (p : Int) := by omega
      rw [e1]
      clear e1
      go_wp2
      go_loopw [6] (FlIn wb n p z) (fun i _ => (intOf i + 1).toNat)
      case atStart =>
        refine ⟨32, os, rfl, Nat.le_refl _, I, fun t ht => hlow t (by omega), ⟨0, by rw [hlow p (by omega)]; rfl⟩, hle, ?_⟩
        have e2 : pw (p + 1) = pw p * 2 ^ 32 := by rw [pw_succ, Int.mul_comm]; rfl
        rw [← e2]; exact hlt
      case round =>
        clear hle hlow hlt I
        obtain ⟨q, os, rfl, hq, F⟩ := hrel
        by_cases hq0 : 0 < q
        · obtain ⟨q, rfl⟩ : ∃ r, q = r + 1 := ⟨q - 1, by omega⟩
          have e1 : ((q + 1 : Nat) : Int) - 1 = (q : Int) := by omega
          rw [e1]
          clear e1
          have I := F.I
          obtain ⟨d0, d1, b0', b1⟩ := fl_room F (by omega)
          have hcell := I.cell (j := p) (by omega)
          have hfz := I.fz p
          generalize hd : os.getD p 0 = d at *
          have q0 : (0 : Int) ≤ (q : Int) := by omega
          have p0 : (0 : Int) ≤ (p : Int) := by omega
          have p1 : (p : Int) < (n : Int) := by omega
          have p2 : p < n := by omega
          have q1 : (q : Int) ≤ 31 := by omega
          have v1 : IntKind.i64.wrap ((2 : Int) ^ q) = (2 : Int) ^ q := by rw [IntKind.wrap_i64]; omega
          have v2 : IntKind.i64.wrap (d + (2 : Int) ^ q) = d + (2 : Int) ^ q := by rw [IntKind.wrap_i64]; omega
          have v3 : IntKind.i64.wrap (p : Int) = p := by rw [IntKind.wrap_i64]; omega
          have hcell' : wr.drew.cell? ⟨wb.heap.size, p, none⟩ = some (.int .i64 d) := hcell
          have hfz' : wr.drew.frozen? ⟨wb.heap.size, p, none⟩ = false := hfz
          have I1 : ProdI wb n n (wr.drew.setCell ⟨wb.heap.size, p, none⟩ (.int .i64 (d + 2 ^ q))) (os.set p (d + 2 ^ q)) := ProdI.set (m := n) (m' := n) (j := p) (d := d + 2 ^ q) ((I.drewN 1 : ProdI wb n n (wr.drewN 1) os)) (by omega) (Nat.le_refl _) (by omega) d1
          have hd1 : (os.set p (d + 2 ^ q)).getD p 0 = d + 2 ^ q := by have := I.len; simp [List.getD, show p < os.length by omega]
          have hTake : ∀ wr', ProdI wb n n wr' (os.set p (d + 2 ^ q)) → val (os.set p (d + 2 ^ q)) * val (os.set p (d + 2 ^ q)) ≤ z → FlIn wb n p z (.int .i64 ((q : Int) - 1)) wr' := fun wr' I' hle => by
            rw [← hd] at I' hle
            exact ⟨q, _, rfl, by omega, fl_take F p2 I' hle⟩
          have hKeep : ∀ wr', ProdI wb n n wr' ((os.set p (d + 2 ^ q)).set p d) → z < val (os.set p (d + 2 ^ q)) * val (os.set p (d + 2 ^ q)) → FlIn wb n p z (.int .i64 ((q : Int) - 1)) wr' := fun wr' I' hlt => by
            rw [← hd] at I' hlt
            exact ⟨q, _, rfl, by omega, fl_keep F p2 I' hlt⟩
          generalize os.set p (d + 2 ^ q) = os1 at *
          clear F I hd
          go_wp2
          go_still_tail 10, (by kernel_rfl)
          change wpList _ _ _ _ _ wr.drew
          generalize wr.drew = w1 at *
          go_wp2_with (at_builtin; revert p2)
          intro p2
          have hsz : (w1.setCell ⟨wb.heap.size, p, none⟩ (.int .i64 (d + 2 ^ q))).heap.size = w1.heap.size := by simp
          generalize w1.setCell ⟨wb.heap.size, p, none⟩ (.int .i64 (d + 2 ^ q)) = wS at *
          rw [← hsz]
          refine wpList_append_own _ rfl _ _ 73 rfl wS.heap.size 3 i0 (.int .i64 0) 1 8 Try.underlying73 hi hz0 hz1 hz2 rfl (by decide) _ 0 [] rfl (own_empty wS) ⟨wb.heap.size, 0, none⟩ n n (os1.map (Value.int .i64)) rfl (by simp [I1.len]) (prod_cells I1 _) (ints_one os1) (by unfold maxLen; omega) (by omega) (by simp) ?_
          intro v' w3 hown' hgrow3 hnil3
          rw [Nat.zero_add, List.nil_append] at hown'
          have hb3 : Below wS.heap.size wS w3 := ((Below.refl wS.heap.size wS).alloc (Nat.le_refl _) _).grown hgrow3 (by simp) (own_base (own_empty wS))
          have I3 := I1.next hb3
          have hrow : RowK .i64 w3 v' os1 := RowK.own0 hown'
          clear hown' hgrow3 hnil3 I1 hb3 hcell hfz hcell' hfz' hsz
          go_wp2_with fail
          refine (cut_c hrow (by have := I3.len; omega)).mono ?_
          rintro e w4 ⟨v4, m, rfl, hm, hr4, hz4, hn4, rfl⟩
          have hr4 := hr4 _ hrow
          have hv4 := val_cut hz4
          have hg4 := good_take I3.gd m
          have hl4 : (os1.take m).length ≤ n := by have := I3.len; rw [List.length_take]; omega
          generalize os1.take m = os2 at *
          obtain ⟨a4, c4, rfl, hc4⟩ := hr4.len
          clear hz4 hrow hm
          have cb : ∀ W, Below wb.heap.size wb W → W.cell? ⟨w.heap.size, 1, none⟩ = some (.slice a L c) := fun W hW => (cellOf (j := 1) ((hW.block w.heap.size (by have := hbs'.out; omega)).trans k1)).trans rfl
          have x0 : Below wb.heap.size wb w4.drew := I3.bel.drew
          have l2 : os2.length ≤ 262144 := by omega
          have lx : xs.length ≤ 1048576 := by omega
          have hr4d : RowK .i64 w4.drew (.slice a4 os2.length c4) os2 := hr4
          have xw : ∀ W, Below wb.heap.size wb W → RowK .i64 W (.slice a L c) xs := fun W hW => r1.below (bw.trans (hW.mono bw.size))
          go_wp2
          go_region_held3 (fun w' => w'.cell? ⟨w.heap.size, 1, none⟩ = some (.slice a L c))
            ((refine cb _ ?_; with_reducible first | exact x0 | exact x1 | exact x2))
            (first | (go_at_call 72; ((with_reducible refine (product_c hr4d hr4d hg4 hg4 l2 l2).mono ?_)); rintro e w5 ⟨v5, rfl, ⟨zs, hr5, hg5, hn5, hv5⟩, hb5⟩; have x1 := next0 x0 hb5; obtain ⟨a5, c5, rfl, hc5⟩ := hr5.len) | (go_at_call 73; ((with_reducible refine (order_c hr5 (xw _ x1) hg5 gx hn5 nx (prodz_len hg5 hn5 hv5 hg4 hg4 l2 l2) lx).mono ?_)); rintro e w6 ⟨x6, rfl, ⟨r, rfl, ho1, ho2⟩, hb6⟩; have x2 := next0 x1 hb6))
          have I6 : ProdI wb n n w6 os1 := ProdI.next (ProdI.next (wr := w4.drew) (I3.drewN 1) hb5) hb6
          have hcell := I6.cell (j := p) p2
          rw [hd1] at hcell
          have hfz := I6.fz p
          by_cases hgt : val xs < val os1 * val os1
          · have hcell' : w6.drew.cell? ⟨wb.heap.size, p, none⟩ = some (.int .i64 (d + 2 ^ q)) := hcell
            have hfz' : w6.drew.frozen? ⟨wb.heap.size, p, none⟩ = false := hfz
            have v4 : IntKind.i64.wrap (d + (2 : Int) ^ q - (2 : Int) ^ q) = d := by rw [IntKind.wrap_i64]; omega
            have v5 : IntKind.i64.wrap d = d := by rw [IntKind.wrap_i64]; omega
            have I7 : ProdI wb n n (w6.drew.setCell ⟨wb.heap.size, p, none⟩ (.int .i64 d)) (os1.set p d) := ProdI.set (m := n) (m' := n) (j := p) (d := d) (wr := w6.drew) (I6.drewN 1) p2 (Nat.le_refl _) d0 (by omega)
            have hfin := hKeep _ I7 (by rw [hz]; exact hgt)
            clear hTake hKeep I7 I6 I3 hr4 hr5 r1 hv4 hv5 ho1 ho2 cb xw x0 x1 x2 hr4d
            go_wp2
            go_still_tail 10, (by kernel_rfl)
            change wpList _ _ _ _ _ w6.drew
            generalize w6.drew = w7 at *
            go_wp2
            go_roundw
            case rel => exact hfin
            case measure => simp [intOf]
          · have hfin := hTake _ I6 (by omega)
            clear hTake hKeep I6 I3 hr4 hr5 r1 hv4 hv5 ho1 ho2 cb xw x0 x1 x2 hr4d
            go_wp2
            go_roundw
            case rel => exact hfin
            case measure => simp [intOf]
        · obtain rfl : q = 0 := by omega
          have hout : FlOut wb n z (.int .i64 ((p : Int) - 1)) wr := ⟨p, os, rfl, by omega, F.I, F.low, F.le, by have := F.lt; rwa [Int.pow_zero, Int.mul_one] at this⟩
          have e1 : ((0 : Nat) : Int) - 1 = -1 := by omega
          rw [e1]
          clear e1 F
          go_wp2
          go_roundw
          case rel => exact hout
          case measure => simp [intOf]
    · obtain rfl : p = 0 := by omega
      have e1 : ((0 : Nat) : Int) - 1 = -1 := by omega
      rw [e1]
      clear e1
      have hrow : RowK .i64 wr (.slice (some ⟨wb.heap.size, 0, none⟩) n n) os := RowK.own0 I.own
      have bel := I.bel
      have hg := I.gd
      have hlen := I.len
      rw [show pw 0 = 1 from rfl] at hlt
      clear I hlow I0
      go_wp2_with fail
      refine (made_c false hrow hg (by omega)).mono ?_
      rintro e w3 ⟨r, rfl, hd, hb3⟩
      have x3 := next0 bel hb3
      have q2 := (x3.block (w.heap.size + 1) (by have := hbs'.out; omega)).trans k2
      have d0 : w3.cell? ⟨w.heap.size + 1, 0, none⟩ = some (.bool false) := (cellOf (j := 0) q2).trans rfl
      have d1 : w3.cell? ⟨w.heap.size + 1, 1, none⟩ = some (.slice none 0 0) := (cellOf (j := 1) q2).trans rfl
      have f0 : w3.frozen? ⟨w.heap.size + 1, 0, none⟩ = false := frozenOf q2
      have f1 : w3.frozen? ⟨w.heap.size + 1, 1, none⟩ = false := frozenOf q2
      have hd' := hd
      obtain ⟨bb, s, zs, rfl, hr, -⟩ := hd'
      obtain ⟨sa, sc, rfl, _⟩ := hr.len
      have F := hd.box2 d0 d1 (.bool bb) (.slice sa zs.length sc)
      have hbel : Below w.heap.size w ((w3.setCell ⟨w.heap.size + 1, 0, none⟩ (.bool bb)).setCell ⟨w.heap.size + 1, 1, none⟩ (.slice sa zs.length sc)) := ((bw.trans (x3.mono bw.size)).setCell (by simp) _).setCell (by simp) _
      have h0 := (val_bounds hg).1
      clear hrow hb3 hr hd bel x3 q2 r1
      go_wp2
      exact bodyPost_ret (v := .agg #[.bool bb, .slice sa zs.length sc]) (by simp [results, Try.results46, go_sem, d0, d1]) rfl ⟨_, rfl, ⟨_, F, h0, hle, hlt⟩, hbel⟩
end Go.Proofs.Ytedhjlkidcojhaa
