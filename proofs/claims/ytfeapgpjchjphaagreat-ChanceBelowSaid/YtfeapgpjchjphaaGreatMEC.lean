/-
  The reference's Below.
-/
import Derived.Test.YtfeapgpjchjphaaGreatMEB
import Derived.Test.YtfeapgpjchjphaaGreatMCT
import Derived.Test.YtfeapgpjchjphaaGreatMYE
set_option linter.all false
namespace Go.Proofs.YtfeapgpjchjphaaGreat
open Go Go.Rx Go.RowKit Go.Big
attribute [local instance] noAv
theorem small_i {x : Int} (h0 : - 4294967296 * 4294967296 * 4294967296 ≤ x) (h1 : x ≤ 4294967296 * 4294967296 * 4294967296) : small x := by
  have e := pw_mono (show 4 ≤ 64 by decide)
  have e4 : pw 4 = 4294967296 * 4294967296 * 4294967296 * 4294967296 := by decide
  unfold small
  omega
set_option maxHeartbeats 1600000 in
theorem parts_l {w : World} {u v : Value} {x y : Int} (h1 : LongV w u x) (h2 : LongV w v y) (k1 : small x) (k2 : small y) (hy : y ≠ 0) :
    Calls Tryz.prog 26 #[u, v] w (Gets (fun w' r => ∃ a b, r = .tuple #[a, b] ∧ LongV w' a (x / y) ∧ LongV w' b (x % y)) w) := by
  obtain ⟨p, s, xs, rfl, r1, g1, n1, z1, rfl⟩ := h1
  obtain ⟨q, t, ys, rfl, r2, g2, n2, z2, rfl⟩ := h2
  refine Parts_c r1 r2 g1 g2 n1 n2 (small_len g1 n1 rfl k1) (small_len g2 n2 rfl k2) ?_
  rcases Nat.eq_zero_or_pos ys.length with e | e
  · exfalso
    obtain rfl := List.eq_nil_of_length_eq_zero e
    apply hy
    cases q <;> rfl
  · exact e
theorem at_zero {W : World} {B : Nat} (m : W.heap[B]? = some (.cells #[.bool false, .slice none 0 0] 69)) : LongAt W B 0 :=
  ⟨false, none, 0, 0, cellOf m, cellOf m, frozenOf m, frozenOf m, lt_of_heap m, ⟨false, _, [], rfl, RowK.nil (fun _ h => h.elim), fun _ h => (List.not_mem_nil h).elim, fun h => absurd h (Nat.lt_irrefl 0), (fun h => by cases h), rfl⟩⟩
theorem at_store {W : World} {B : Nat} {bb : Bool} {sa : Option Addr} {n sc : Nat} {z : Int} (m : W.heap[B]? = some (.cells #[.bool false, .slice none 0 0] 69)) (h : LongV W (.agg #[.bool bb, .slice sa n sc]) z) :
    LongAt ((W.setCell ⟨B, 0, none⟩ (.bool bb)).setCell ⟨B, 1, none⟩ (.slice sa n sc)) B z := (at_zero m).store h
theorem mix_range (s : Int) : 0 ≤ mix s ∧ mix s < 18446744073709551616 := by
  unfold mix mx3
  generalize mx2 (mxa (st s)) = x
  have h := bits_within .xor .u64 x (x / 2147483648)
  refine ⟨bits_lo_u64 _ _ _, ?_⟩
  have := bits_hi_u64 .xor x (x / 2147483648)
  omega
theorem LongAt.far {W : World} {B : Nat} {z : Int} (h : LongAt W B z) {C : Nat} (hC : C ≠ B) {y : Int} (hy : W.cell? ⟨C, 0, none⟩ = some (.int .u64 y)) (v : Value) : LongAt (W.setCell ⟨C, 0, none⟩ v) B z := by
  obtain ⟨bb, sa, n, sc, h0, h1, f0, f1, hB, hv⟩ := h
  refine ⟨bb, sa, n, sc, ?_, ?_, ?_, ?_, by simpa using hB, hv.setCell hy (fun n e => by cases e) v⟩
  · rw [World.cell?_setCell_other _ _ _ _ (by intro e; injection e with e; exact hC e)]; exact h0
  · rw [World.cell?_setCell_other _ _ _ _ (by intro e; injection e with e; exact hC e)]; exact h1
  · simpa using f0
  · simpa using f1
/-- The state of the loop of numbers that are passed over. -/
def RefRel (w : World) (s n : Int) (B9 : Nat) (L : Int) (a : Value) (wr : World) : Prop :=
  ∃ i : Nat, a = .int .i64 i ∧ i ≤ 200 ∧ Below w.heap.size w wr ∧ wr.heap[w.heap.size]? = some (.cells #[.int .u64 (stN i s)] 24) ∧ wr.heap[w.heap.size + 1]? = some (.cells #[.int .u64 0] 24) ∧ LongAt wr B9 L ∧ ∀ j, j < i → okV n (mix (stN j s)) = false
set_option maxHeartbeats 3200000 in
set_option maxRecDepth 100000 in
theorem refBelow_c {w : World} {s n : Int} (h1 : 1 ≤ n) (h2 : n < 9223372036854775808) : Calls Tryz.prog 7 #[.agg #[.int .u64 s], .int .i64 n] w (Gets (fun _ r => BelowV s n r) w) := by
  have n0 : ¬ n < 1 := by omega
  have nb := fun o o' => next_below (w := w) (o := o) (o' := o')
  have sz2 : ∀ o o', ((w.alloc o).alloc o').heap.size = w.heap.size + 1 + 1 := fun o o' => by simp
  have k2 := fun o o' => (heap2 w o o').2
  have k1 := fun o o' => (heap2 w o o').1
  go_enter Tryz.func7, Tryz.ntmps7
  go_wp2_with fail
  have k1 := k1 (.cells #[.int .u64 s] 24) (.cells #[.int .u64 0] 24)
  have k2 := k2 (.cells #[.int .u64 s] 24) (.cells #[.int .u64 0] 24)
  have nb := nb (.cells #[.int .u64 s] 24) (.cells #[.int .u64 0] 24)
  have sz2 := sz2 (.cells #[.int .u64 s] 24) (.cells #[.int .u64 0] 24)
  generalize hwA : (w.alloc (.cells #[.int .u64 s] 24)).alloc (.cells #[.int .u64 0] 24) = wA at *
  refine (long1_0 2 (by omega) (by omega)).mono ?_
  rintro e w1 ⟨y1, rfl, hy1, hb1⟩
  go_wp2_with fail
  refine (raised_c hy1 64 (by omega) ?_ ?_).mono ?_
  · exact small_i (by omega) (by omega)
  · intro k hk
    have e1 : (2 : Int) ^ k ≤ 2 ^ 64 := by
      rw [show (64 : Nat) = k + (64 - k) by omega, Int.pow_add]
      have a1 : (0 : Int) < 2 ^ k := Int.pow_pos (by omega)
      have a2 : (0 : Int) < 2 ^ (64 - k) := Int.pow_pos (by omega)
      have := Int.mul_le_mul_of_nonneg_left (show (1 : Int) ≤ 2 ^ (64 - k) by omega) (Int.le_of_lt a1)
      omega
    have e2 : (0 : Int) < 2 ^ k := Int.pow_pos (by omega)
    have e3 : (2 : Int) ^ 64 = 18446744073709551616 := by decide
    exact small_i (by omega) (by omega)
  rintro e w2 ⟨y2, rfl, hy2, hb2⟩
  go_wp2_with fail
  refine (long1_0 n (by omega) (by omega)).mono ?_
  rintro e w3 ⟨y3, rfl, hy3, hb3⟩
  have hy2 := hy2.below hb3
  go_wp2_with fail
  refine (parts_l hy2 hy3 (by rw [show (2 : Int) ^ 64 = 18446744073709551616 by decide]; exact small_i (by omega) (by omega)) (small_i (by omega) (by omega)) (by omega)).mono ?_
  rintro e w4 ⟨r4, rfl, ⟨a, b, rfl, ha, hb⟩, hb4⟩
  rw [show (2 : Int) ^ 64 = 18446744073709551616 by decide] at ha
  have B4 : Below wA.heap.size wA w4 := (((hb1.trans (hb2.mono hb1.size)).trans (hb3.mono (Nat.le_trans hb1.size hb2.size))).trans (hb4.mono (Nat.le_trans (Nat.le_trans hb1.size hb2.size) hb3.size)))
  have hA := ha
  obtain ⟨ba, sa, xa, rfl, ra, -⟩ := hA
  obtain ⟨aa, ca, rfl, -⟩ := ra.len
  obtain ⟨bb, sb, xb, rfl, rb, -⟩ := hb
  obtain ⟨ab, cb, rfl, -⟩ := rb.len
  obtain ⟨m1, m2⟩ := heap2 w4 (.cells #[.bool ba, .slice aa xa.length ca] 69) (.cells #[.bool bb, .slice ab xb.length cb] 69)
  have B5 : Below w4.heap.size w4 ((w4.alloc (.cells #[.bool ba, .slice aa xa.length ca] 69)).alloc (.cells #[.bool bb, .slice ab xb.length cb] 69)) := ((Below.refl _ _).alloc (Nat.le_refl _) _).alloc (by simp) _
  clear ra rb hb1 hb2 hb3 hb4 hy2 hy3 hy1
  go_wp2_with fail
  generalize hW5 : (w4.alloc (.cells #[.bool ba, .slice aa xa.length ca] 69)).alloc (.cells #[.bool bb, .slice ab xb.length cb] 69) = w5 at *
  have t1 : Below w5.heap.size w5 w5.drew := (Below.refl _ _).drew
  have t1a : ∀ o, Below w5.heap.size w5 (w5.alloc o).drew := fun o => below_al t1 o
  have l4 : w4.heap.size < w5.heap.size := lt_of_heap m1
  have hS : ∀ W, Below w5.heap.size w5 W → W.cell? ⟨w4.heap.size, 0, none⟩ = some (.bool ba) ∧ W.cell? ⟨w4.heap.size, 1, none⟩ = some (.slice aa xa.length ca) := fun W hW => by
    have e1 := cells2 ((hW.block w4.heap.size l4).trans m1)
    exact ⟨e1.1, e1.2.1⟩
  have HL : ∀ W, Below w5.heap.size w5 W → LongV W (.agg #[.bool ba, .slice aa xa.length ca]) (18446744073709551616 / n) := fun W hW => (ha.below B5).below (hW)
  have q0 := Int.ediv_nonneg (show (0 : Int) ≤ 18446744073709551616 by decide) (show 0 ≤ n by omega)
  have q1 := Int.ediv_le_self n (show (0 : Int) ≤ 18446744073709551616 by decide)
  generalize hQ : 18446744073709551616 / n = Q at *
  have HQ := Lib.hid hQ
  clear hQ
  have B6 : Below wA.heap.size wA w5 := B4.trans (B5.mono B4.size)
  have l5 : wA.heap.size ≤ w5.heap.size := B6.size
  clear ha B4 B5 m1 m2 hW5
  have sQ : small Q := small_i (by omega) (by omega)
  have sn : small n := small_i (by omega) (by omega)
  go_cut [9] from 24 to 27 (fun s9 wx => ∃ B9, s9 = .pointer (some ⟨B9, 0, none⟩) ∧ w5.heap.size ≤ B9 ∧ Below w5.heap.size w5 wx ∧ LongAt wx B9 (Q * n))
  case first =>
    go_region_held3 (fun w' => w'.cell? ⟨w4.heap.size, 0, none⟩ = some (.bool ba) ∧ w'.cell? ⟨w4.heap.size, 1, none⟩ = some (.slice aa xa.length ca))
      ((refine hS _ ?_; (with_reducible (repeat' (first | exact t1 | exact t1a _ | exact t2 | exact t3 | refine below_al ?_ _ | refine below_st ?_ ?_ _))); all_goals (first | exact Nat.le_refl _ | exact t2.size | exact t3.size)))
      (first | (go_at_call 28; ((with_reducible refine (long1_0 n (by omega) (by omega)).mono ?_); rintro e w6 ⟨v6, rfl, h6, hb6⟩; have t2 := next0 (by first | exact t1 | exact t1a _) hb6; (first | (have m1 := lay1d hb6) | skip); (try have i1 := lt_of_heap m1)))
             | (go_at_call 29; ((with_reducible refine (times_c (HL _ (by first | exact t2 | exact below_al t2 _)) (by first | exact h6 | exact h6.below ((Below.refl _ _).alloc (Nat.le_refl _) _)) sQ sn).mono ?_); rintro e w7 ⟨v7, rfl, h7, hb7⟩; have t3 := next0 (by first | exact t2 | exact below_al t2 _) hb7; (first | (have m2 := lay1 hb7) | skip); have hb67 : Below w6.heap.size w6 w7 := next0 (by first | exact Below.refl _ _ | exact below_al (Below.refl _ _) _) hb7; (try have m1 := carry m1 hb67); (try (have f1 := (cells2 m1).1; have f2 := (cells2 m1).2.1; have f3 := (cells2 m1).2.2.1; have f4 := (cells2 m1).2.2.2)); (try have l1 := lt_of_heap m1); (try (have f5 := (cells2 m2).1; have f6 := (cells2 m2).2.1; have f7 := (cells2 m2).2.2.1; have f8 := (cells2 m2).2.2.2)); (try have l2 := lt_of_heap m2); (have h7c := h7); (obtain ⟨b7, s7, x7, rfl, r7, -⟩ := h7c); (obtain ⟨a7, c7, rfl, -⟩ := r7.len))))
    all_goals go_wp2
    all_goals go_meet
    all_goals
      with_reducible first
        | exact ⟨w7.heap.size, rfl, t3.size, below_al t3 _, LongAt.new h7 69⟩
        | exact ⟨w5.heap.size, rfl, Nat.le_refl _, below_st (below_st t3 (Nat.le_refl _) _) (Nat.le_refl _) _, at_store m1 h7⟩
        | exact ⟨w6.heap.size, rfl, t2.size, below_st (below_st t3 t2.size _) t2.size _, at_store m2 h7⟩
  case rest =>
    obtain ⟨B9, rfl, hB9, bel9, hat⟩ := hcut
    have bel : Below wA.heap.size wA _ := B6.trans (bel9.mono B6.size)
    have hk1 := (bel.block w.heap.size (by rw [sz2]; omega)).trans k1
    have hk2 := (bel.block (w.heap.size + 1) (by rw [sz2]; omega)).trans k2
    have belw : Below w.heap.size w _ := nb.trans (bel.mono (by rw [sz2]; omega))
    have lB9 : w.heap.size + 1 < B9 := by rw [sz2] at l5; omega
    clear hS HL t1 t1a B6 l5 l4 bel bel9 hB9 k1 k2 nb sz2 sQ
    go_wp2_with fail
    go_loopw [10] (RefRel w s n B9 (Q * n)) (fun i _ => 200 - (intOf i).toNat)
    case atStart => exact ⟨0, rfl, by omega, belw, hk1, hk2, hat, fun j hj => absurd hj (Nat.not_lt_zero _)⟩
    case round =>
      clear hk1 hk2 hat belw
      obtain ⟨i, rfl, hi, belw, hk1, hk2, hat, hno⟩ := hrel
      by_cases h8 : i < 200
      · have i0 : (0 : Int) ≤ (i : Int) := by omega
        have i1 : (i : Int) < 200 := by omega
        have c1 : wr.cell? ⟨w.heap.size, 0, none⟩ = some (.int .u64 (stN i s)) := (cellOf hk1).trans rfl
        go_wp2_with fail
        refine (refNext_c (stN i s)).mono ?_
        rintro e w8 ⟨r8, rfl, rfl, hb8⟩
        unfold nextV
        have e9 : st (stN i s) = stN (i + 1) s := rfl
        rw [e9]
        obtain ⟨m0, m1⟩ := mix_range (stN i s)
        have hmul := limit_lt h1 h2 m0 m1
        rw [HQ.out] at hmul
        have hok : okV n (mix (stN i s)) = decide (mix (stN i s) < Q * n) := by unfold okV restV; exact decide_eq_decide.2 hmul
        have belw8 : Below w.heap.size w w8 := belw.trans (hb8.mono belw.size)
        have hk1 := (hb8.block w.heap.size (lt_of_heap hk1)).trans hk1
        have hk2 := (hb8.block (w.heap.size + 1) (lt_of_heap hk2)).trans hk2
        have hat := hat.below hb8
        have k12 := (MapKept.heap_alloc w8 (.cells #[.int .u64 (stN (i + 1) s)] 24)).1
        have bal : Below w8.heap.size w8 (w8.alloc (.cells #[.int .u64 (stN (i + 1) s)] 24)) := (Below.refl _ _).alloc (Nat.le_refl _) _
        have g1 := (bal.block w.heap.size (lt_of_heap hk1)).trans hk1
        have g2 := (bal.block (w.heap.size + 1) (lt_of_heap hk2)).trans hk2
        have hat := hat.below bal
        have l8 := lt_of_heap hk2
        have hat9 := hat.far (C := w.heap.size) (by omega) ((cellOf g1).trans rfl) (.int .u64 (stN (i + 1) s))
        have j1 := heap_setCell_same _ w.heap.size 0 _ 24 (.int .u64 (stN (i + 1) s)) g1
        have j2 := (setFar (w := w8.alloc (.cells #[.int .u64 (stN (i + 1) s)] 24)) (a := ⟨w.heap.size, 0, none⟩) (T := w.heap.size + 1) (by show w.heap.size + 1 ≠ w.heap.size; omega) (.int .u64 (stN (i + 1) s))).trans g2
        have bel9 : Below w.heap.size w ((w8.alloc (.cells #[.int .u64 (stN (i + 1) s)] 24)).setCell ⟨w.heap.size, 0, none⟩ (.int .u64 (stN (i + 1) s))) := (belw8.trans (bal.mono (by omega))).setCell (p := ⟨w.heap.size, 0, none⟩) (Nat.le_refl _) _
        have c1 : (w8.alloc (.cells #[.int .u64 (stN (i + 1) s)] 24)).cell? ⟨w.heap.size, 0, none⟩ = some (.int .u64 (stN i s)) := (cellOf g1).trans rfl
        have f1 : (w8.alloc (.cells #[.int .u64 (stN (i + 1) s)] 24)).frozen? ⟨w.heap.size, 0, none⟩ = false := frozenOf g1
        have sm : small (mix (stN i s)) := small_i (by omega) (by omega)
        generalize hm : mix (stN i s) = m at *
        have HM := Lib.hid hm
        generalize hs2 : stN (i + 1) s = s2 at *
        have HS := Lib.hid hs2
        clear hm hs2 hat hk1 hk2 bal belw belw8 hmul e9 g1 g2 hb8
        go_wp2_with fail
        generalize (w8.alloc (.cells #[.int .u64 s2] 24)).setCell ⟨w.heap.size, 0, none⟩ (.int .u64 s2) = w9 at *
        have hat9' := hat9
        obtain ⟨b9, a9, n9, c9, d0, d1, -, -, lBB, hv9⟩ := hat9'
        have t1 : Below w9.heap.size w9 w9.drew := (Below.refl _ _).drew
        have hS : ∀ W, Below w9.heap.size w9 W → W.cell? ⟨B9, 0, none⟩ = some (.bool b9) ∧ W.cell? ⟨B9, 1, none⟩ = some (.slice a9 n9 c9) := fun W hW => ⟨(hW.cell (p := ⟨B9, 0, none⟩) lBB).trans d0, (hW.cell (p := ⟨B9, 1, none⟩) lBB).trans d1⟩
        have HV : ∀ W, Below w9.heap.size w9 W → LongV W (.agg #[.bool b9, .slice a9 n9 c9]) (Q * n) := fun W hW => hv9.below hW
        have QN : 0 ≤ Q * n ∧ Q * n ≤ 18446744073709551616 := by
          refine ⟨Int.mul_nonneg q0 (by omega), ?_⟩
          rw [← HQ.out]
          exact Int.ediv_mul_le _ (by omega)
        have sL : small (Q * n) := small_i (by omega) (by omega)
        have l9 := lt_of_heap j2
        have hcont : ∀ W, Below w9.heap.size w9 W → m ≥ Q * n → RefRel w s n B9 (Q * n) (.int .i64 ((i : Int) + 1)) W := fun W hW hge =>
          ⟨i + 1, rfl, by omega, bel9.trans (hW.mono bel9.size), by rw [HS.out]; exact (hW.block w.heap.size (by omega)).trans j1, (hW.block (w.heap.size + 1) (by omega)).trans j2, hat9.below hW, fun j hj => by
            rcases Nat.lt_or_ge j i with h | h
            · exact hno j h
            · rw [show j = i by omega, HM.out, hok]; exact decide_eq_false (by omega)⟩
        have hw : IntKind.u64.wrap n = n := by rw [wrap_u]; exact Int.emod_eq_of_lt (by omega) (by omega)
        have hn : (n == 0) = false := by simp; omega
        clear hv9 d0 d1 hat9 c1 f1 k12 hi
        by_cases hlt : m < Q * n
        · have hord : ∀ W v1 v2, LongV W v1 m → LongV W v2 (Q * n) → Calls Tryz.prog 31 #[v1, v2] W (Gets (fun _ r => r = .int .i64 (-1)) W) := fun W v1 v2 h1 h2 => by
            have := order_l h1 h2 sm sL
            rw [show ordI m (Q * n) = -1 from if_pos hlt] at this
            exact this
          go_region_held3 (fun w' => w'.cell? ⟨B9, 0, none⟩ = some (.bool b9) ∧ w'.cell? ⟨B9, 1, none⟩ = some (.slice a9 n9 c9))
            ((refine hS _ ?_; with_reducible first | exact t1 | exact t2 | exact t3))
            (first | (go_at_call 32; ((with_reducible refine (words_c m0 m1).mono ?_); rintro e w10 ⟨v10, rfl, h10, hb10⟩; have t2 := next0 t1 hb10))
                   | (go_at_call 31; ((with_reducible refine (hord _ _ _ h10 (HV _ t2)).mono ?_); rintro e w11 ⟨v11, rfl, rfl, hb11⟩; have t3 := next0 t2 hb11)))
          have e1 := (t3.block w.heap.size (by omega)).trans j1
          have e2 := (t3.block (w.heap.size + 1) (by omega)).trans j2
          have c1 : w11.cell? ⟨w.heap.size, 0, none⟩ = some (.int .u64 s2) := (cellOf e1).trans rfl
          have c2 : w11.cell? ⟨w.heap.size + 1, 0, none⟩ = some (.int .u64 0) := (cellOf e2).trans rfl
          have f2 : w11.frozen? ⟨w.heap.size + 1, 0, none⟩ = false := frozenOf e2
          have k5 := fun v => heap_setCell_same w11 (w.heap.size + 1) 0 _ 24 v e2
          have c5 : ∀ v, (w11.setCell ⟨w.heap.size + 1, 0, none⟩ v).drew.cell? ⟨w.heap.size + 1, 0, none⟩ = some v := fun v => (cellOf (W := w11.setCell ⟨w.heap.size + 1, 0, none⟩ v) (k5 v)).trans rfl
          have hw5 : ∀ v, Below w.heap.size w (w11.setCell ⟨w.heap.size + 1, 0, none⟩ v).drew := fun v => ((bel9.trans (t3.mono bel9.size)).setCell (p := ⟨w.heap.size + 1, 0, none⟩) (Nat.le_succ _) v).drew
          have hfin : BelowV s n (.tuple #[.int .i64 (wrap64 (m.tmod n)), .agg #[.int .u64 s2], .int .i64 0]) := .inl ⟨i, h8, hno, by rw [HM.out, hok]; exact decide_eq_true hlt, by rw [HM.out, HS.out]⟩
          clear hcont hord HV hS t1 t2 t3 e1 e2 k5 hno hok j1 j2 bel9 h10 hb10 hb11
          go_wp2
          go_region
          go_wp2
          rw [Int.tmod_eq_emod_of_nonneg m0] at hfin
          exact bodyPost_ret (v := .tuple #[.int .i64 (wrap64 (m % n)), .agg #[.int .u64 s2], .int .i64 0]) (by simp [results, Tryz.results7, go_sem, c5]) rfl ⟨_, rfl, hfin, hw5 _⟩
        · obtain ⟨v0, hv, hv0⟩ : ∃ v, ordI m (Q * n) = v ∧ ¬ v < 0 := ⟨_, rfl, by unfold ordI; rw [if_neg hlt]; split <;> decide⟩
          have hord : ∀ W v1 v2, LongV W v1 m → LongV W v2 (Q * n) → Calls Tryz.prog 31 #[v1, v2] W (Gets (fun _ r => r = .int .i64 v0) W) := fun W v1 v2 h1 h2 => by
            have := order_l h1 h2 sm sL
            rw [hv] at this
            exact this
          have hge : m ≥ Q * n := by omega
          clear hv
          go_region_held3 (fun w' => w'.cell? ⟨B9, 0, none⟩ = some (.bool b9) ∧ w'.cell? ⟨B9, 1, none⟩ = some (.slice a9 n9 c9))
            ((refine hS _ ?_; with_reducible first | exact t1 | exact t2 | exact t3))
            (first | (go_at_call 32; ((with_reducible refine (words_c m0 m1).mono ?_); rintro e w10 ⟨v10, rfl, h10, hb10⟩; have t2 := next0 t1 hb10))
                   | (go_at_call 31; ((with_reducible refine (hord _ _ _ h10 (HV _ t2)).mono ?_); rintro e w11 ⟨v11, rfl, rfl, hb11⟩; have t3 := next0 t2 hb11)))
          have hfin := hcont w11 t3 hge
          clear hcont hord HV hS t1 t2 t3 hno hok j1 j2 bel9 h10 hb10 hb11
          go_wp2
          go_roundw
          case rel => exact hfin
          case measure => simp [intOf]; omega
      · obtain rfl : i = 200 := by omega
        have c2 : wr.cell? ⟨w.heap.size + 1, 0, none⟩ = some (.int .u64 0) := (cellOf hk2).trans rfl
        have f2 : wr.frozen? ⟨w.heap.size + 1, 0, none⟩ = false := frozenOf hk2
        have k5 := fun v => heap_setCell_same wr (w.heap.size + 1) 0 _ 24 v hk2
        have c5 : ∀ v, (wr.setCell ⟨w.heap.size + 1, 0, none⟩ v).cell? ⟨w.heap.size + 1, 0, none⟩ = some v := fun v => (cellOf (W := wr.setCell ⟨w.heap.size + 1, 0, none⟩ v) (k5 v)).trans rfl
        have hw5 : ∀ v, Below w.heap.size w (wr.setCell ⟨w.heap.size + 1, 0, none⟩ v) := fun v => belw.setCell (p := ⟨w.heap.size + 1, 0, none⟩) (Nat.le_succ _) v
        have hfin : BelowV s n (.tuple #[.int .i64 0, .agg #[.int .u64 0], .int .i64 9]) := .inr ⟨hno, rfl⟩
        clear hk1 hk2 hat belw hno k5
        go_wp2
        exact bodyPost_ret (v := .tuple #[.int .i64 0, .agg #[.int .u64 0], .int .i64 9]) (by simp [results, Tryz.results7, go_sem, c5]) rfl ⟨_, rfl, hfin, hw5 _⟩
end Go.Proofs.YtfeapgpjchjphaaGreat
