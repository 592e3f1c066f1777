/-
  Wide random numbers: Wide of the reference, for every limit.
-/
import Derived.Test.YtfeapgpjchjphaaGreatMWQ
import Derived.Test.YtfeapgpjchjphaaGreatMR
set_option linter.all false
namespace Go.Proofs.YtfeapgpjchjphaaGreat
open Go Go.Rx Go.RowKit Go.Big Go.Shelf
attribute [local instance] noAv
theorem rowk_keeps {W U : World} {N B12 B13 : Nat} {v : Value} {xs : List Int} {y : Int} {p q : Bool} {a a' : Option Addr} {n c n' c' : Nat} (h : RowK .i64 W v xs) (hk : Keeps N B12 B13 W U) (hN : W.heap[N]? = some (.cells #[.int .u64 y] 24)) (h12 : W.heap[B12]? = some (.cells #[.bool p, .slice a n c] 69)) (h13 : W.heap[B13]? = some (.cells #[.bool q, .slice a' n' c'] 69)) : RowK .i64 U v xs := by
  rcases h with ⟨e1, e2, h⟩ | ⟨b, o, cap, h1, h2, h3, h4, h5, h6⟩
  · exact .inl ⟨e1, e2, fun _ h => h.elim⟩
  · refine .inr ⟨b, o, cap, h1, h2, Nat.lt_of_lt_of_le h3 hk.1, fun j hj => ?_, h5, fun _ h => h.elim⟩
    have e := h4 j hj
    have bN : b ≠ N := by
      rintro rfl
      rw [cellOf hN] at e
      rcases hh : o + j with _ | z
      · rw [hh] at e; simp at e
      · rw [hh] at e; simp at e
    have b12 : b ≠ B12 := by
      rintro rfl
      rw [cellOf h12] at e
      rcases hh : o + j with _ | _ | z
      · rw [hh] at e; simp at e
      · rw [hh] at e; simp at e
      · rw [hh] at e; simp at e
    have b13 : b ≠ B13 := by
      rintro rfl
      rw [cellOf h13] at e
      rcases hh : o + j with _ | _ | z
      · rw [hh] at e; simp at e
      · rw [hh] at e; simp at e
      · rw [hh] at e; simp at e
    have hb := hk.2.2 b h3 bN b12 b13
    simp only [World.cell?, hb] at e ⊢
    exact e
theorem LongAt.keeps {W U : World} {N B12 B13 B : Nat} {z y : Int} {p q : Bool} {a a' : Option Addr} {n c n' c' : Nat} (h : LongAt W B z) (hk : Keeps N B12 B13 W U) (hN : W.heap[N]? = some (.cells #[.int .u64 y] 24)) (h12 : W.heap[B12]? = some (.cells #[.bool p, .slice a n c] 69)) (h13 : W.heap[B13]? = some (.cells #[.bool q, .slice a' n' c'] 69)) (d1 : B ≠ N) (d2 : B ≠ B12) (d3 : B ≠ B13) : LongAt U B z := by
  obtain ⟨bb, sa, m, sc, h0, h1, f0, f1, hB, b2, s2, xs, e, hr, hg⟩ := h
  have hb := hk.2.2 B hB d1 d2 d3
  refine ⟨bb, sa, m, sc, ?_, ?_, ?_, ?_, Nat.lt_of_lt_of_le hB hk.1, b2, s2, xs, e, rowk_keeps hr hk hN h12 h13, hg⟩
  · simp only [World.cell?, hb] at h0 ⊢; exact h0
  · simp only [World.cell?, hb] at h1 ⊢; exact h1
  · simp only [World.frozen?, hb] at f0 ⊢; exact f0
  · simp only [World.frozen?, hb] at f1 ⊢; exact f1
theorem ord_lt {x : Int} (h : x < 1) : ordI x 0 < 1 := by
  have := ord_le (x := x) (y := 0) (by omega)
  omega
theorem ord_ge {x : Int} (h : ¬ x < 1) : ¬ ordI x 0 < 1 := by
  unfold ordI
  rw [if_neg (by omega), if_pos (by omega)]
  decide
theorem W_zeros : W 0 = .agg #[.int .u64 0, .int .u64 0, .int .u64 0, .int .u64 0, .int .u64 0, .int .u64 0, .int .u64 0, .int .u64 0] := W_of 0 (by decide) (by decide) 0 rfl
theorem wide_one (s : Int) (h : IsLen 0 ((1 : Int) - 1)) : WideV s 1 (.tuple #[.agg #[.int .u64 0, .int .u64 0, .int .u64 0, .int .u64 0, .int .u64 0, .int .u64 0, .int .u64 0, .int .u64 0], .agg #[.int .u64 s], .int .i64 0]) := by
  have e1 : cNs 0 s 0 = 0 := by show (0 : Int) % 2 ^ 0 = 0; decide
  have e2 : sNs 0 s (0 + 1) = s := rfl
  exact ⟨0, by decide, h, .inl ⟨0, by decide, fun j hj => absurd hj (Nat.not_lt_zero _), by rw [e1]; decide, by rw [e1, e2, W_zeros]⟩⟩
theorem cand_step (k : Nat) (s : Int) (i : Nat) : sumN (nd k) (sNs k s i) % (2 : Int) ^ k = cNs k s i := rfl
theorem at_of {V : World} {B : Nat} {p : Bool} {a : Option Addr} {n c : Nat} {z : Int} (m : V.heap[B]? = some (.cells #[.bool p, .slice a n c] 69)) (h : LongV V (.agg #[.bool p, .slice a n c]) z) : LongAt V B z :=
  ⟨p, a, n, c, (cellOf m).trans rfl, (cellOf m).trans rfl, frozenOf m, frozenOf m, ltH m, h⟩
/-- The candidates that were passed over. -/
def RwOut (w : World) (B7 B9 B10 k : Nat) (s x : Int) (a : Value) (wr : World) : Prop :=
  ∃ i : Nat, a = .int .i64 i ∧ i ≤ 200 ∧ Below w.heap.size w wr ∧ wr.heap[w.heap.size]? = some (.cells #[.int .u64 (sNs k s i)] 24) ∧ wr.heap[w.heap.size + 1 + 1]? = some (.cells #[.int .u64 0, .int .u64 0, .int .u64 0, .int .u64 0, .int .u64 0, .int .u64 0, .int .u64 0, .int .u64 0] 26) ∧ wr.heap[w.heap.size + 3]? = some (.cells #[.int .u64 0] 24) ∧ LongAt wr B7 x ∧ LongAt wr B9 18446744073709551616 ∧ LongAt wr B10 ((2 : Int) ^ k) ∧ ∀ j, j < i → ¬ cNs k s j < x
set_option maxHeartbeats 6400000 in
set_option maxRecDepth 100000 in
theorem refWide_q {w : World} {s x : Int} (hx : fit x) : Calls Tryz.prog 12 #[.agg #[.int .u64 s], W x] w (Gets (fun _ r => wideQ s x r) w) := by
  have hsign := fun U => refSign_c (w := U) hx
  have hin := fun U => in_W (w := U) hx
  obtain ⟨b0, b1, b2, b3, b4, b5, b6, b7, -, -, he⟩ := words_of hx
  rw [he] at hsign hin
  rw [he]
  clear he
  have bel := (((((Below.refl w.heap.size w).alloc (Nat.le_refl _) (.cells #[.int .u64 s] 24)).alloc (by simp) (.cells #[.int .u64 b0, .int .u64 b1, .int .u64 b2, .int .u64 b3, .int .u64 b4, .int .u64 b5, .int .u64 b6, .int .u64 b7] 26)).alloc (by simp; omega) (.cells #[.int .u64 0, .int .u64 0, .int .u64 0, .int .u64 0, .int .u64 0, .int .u64 0, .int .u64 0, .int .u64 0] 26)).alloc (by simp; omega) (.cells #[.int .u64 0] 24))
  obtain ⟨q0, q1, q2, q3⟩ := heapF w (.cells #[.int .u64 s] 24) (.cells #[.int .u64 b0, .int .u64 b1, .int .u64 b2, .int .u64 b3, .int .u64 b4, .int .u64 b5, .int .u64 b6, .int .u64 b7] 26) (.cells #[.int .u64 0, .int .u64 0, .int .u64 0, .int .u64 0, .int .u64 0, .int .u64 0, .int .u64 0, .int .u64 0] 26) (.cells #[.int .u64 0] 24)
  have sz : ((((w.alloc (.cells #[.int .u64 s] 24)).alloc (.cells #[.int .u64 b0, .int .u64 b1, .int .u64 b2, .int .u64 b3, .int .u64 b4, .int .u64 b5, .int .u64 b6, .int .u64 b7] 26)).alloc (.cells #[.int .u64 0, .int .u64 0, .int .u64 0, .int .u64 0, .int .u64 0, .int .u64 0, .int .u64 0, .int .u64 0] 26)).alloc (.cells #[.int .u64 0] 24)).heap.size = w.heap.size + 4 := by simp
  go_enter Tryz.func12, Tryz.ntmps12
  obtain ⟨x0, x1, x2, x3, x4, x5, x6, x7⟩ := eightC q1
  go_wp2_with fail
  generalize ((((w.alloc (.cells #[.int .u64 s] 24)).alloc (.cells #[.int .u64 b0, .int .u64 b1, .int .u64 b2, .int .u64 b3, .int .u64 b4, .int .u64 b5, .int .u64 b6, .int .u64 b7] 26)).alloc (.cells #[.int .u64 0, .int .u64 0, .int .u64 0, .int .u64 0, .int .u64 0, .int .u64 0, .int .u64 0, .int .u64 0] 26)).alloc (.cells #[.int .u64 0] 24)) = w1 at *
  refine (hsign _).mono ?_
  rintro e w2 ⟨r, rfl, rfl, hb2⟩
  have q0 := keepH q0 hb2
  have q1 := keepH q1 hb2
  have q2 := keepH q2 hb2
  have q3 := keepH q3 hb2
  have bel := bel.trans (hb2.mono (by omega))
  have sz2 := hb2.size
  clear hb2 hsign x0 x1 x2 x3 x4 x5 x6 x7
  by_cases h1 : x < 1
  · have hc := ord_lt h1
    obtain ⟨z0, z1, z2, z3, z4, z5, z6, z7⟩ := eightC q2
    have fz : ∀ j, w2.frozen? ⟨w.heap.size + 1 + 1, j, none⟩ = false := fun j => frozenOf q2
    have c3 : w2.cell? ⟨w.heap.size + 3, 0, none⟩ = some (.int .u64 0) := (cellOf q3).trans rfl
    have f3 : w2.frozen? ⟨w.heap.size + 3, 0, none⟩ = false := frozenOf q3
    have hfin := (Below.set8 bel (B := w.heap.size + 1 + 1) (by omega) (.int .u64 0) (.int .u64 0) (.int .u64 0) (.int .u64 0) (.int .u64 0) (.int .u64 0) (.int .u64 0) (.int .u64 0)).setCell (p := ⟨w.heap.size + 3, 0, none⟩) (by show w.heap.size ≤ w.heap.size + 3; omega) (.int .u64 0)
    have hne : w.heap.size + 1 + 1 ≠ w.heap.size + 3 := by omega
    have HB := Lib.hid hfin
    clear q0 q1 q2 q3 bel sz sz2 hfin hin
    go_wp2
    exact bodyPost_ret (v := .tuple #[.agg #[.int .u64 0, .int .u64 0, .int .u64 0, .int .u64 0, .int .u64 0, .int .u64 0, .int .u64 0, .int .u64 0], .agg #[.int .u64 0], .int .i64 2]) (by simp [results, Tryz.results12, go_sem, z0, z1, z2, z3, z4, z5, z6, z7, c3]) rfl ⟨_, rfl, .inl ⟨h1, rfl⟩, HB.out⟩
  · have hc := ord_ge h1
    have h1' : 1 ≤ x := by omega
    obtain ⟨x0, x1, x2, x3, x4, x5, x6, x7⟩ := eightC q1
    clear h1
    go_wp2_with fail
    refine (hin _).mono ?_
    rintro e w3 ⟨v3, rfl, hv3, hb3⟩
    have q0 := keepH q0 hb3
    have q2 := keepH q2 hb3
    have q3 := keepH q3 hb3
    have bel := bel.trans (hb3.mono (by omega))
    have sz3 := hb3.size
    have hv3c := hv3
    obtain ⟨bb, ss, xs, rfl, hr3, -⟩ := hv3c
    obtain ⟨sa, sc, rfl, -⟩ := hr3.len
    have al := (Below.refl w3.heap.size w3).alloc (Nat.le_refl _) (.cells #[.bool bb, .slice sa xs.length sc] 69)
    have k7 := (MapKept.heap_alloc w3 (.cells #[.bool bb, .slice sa xs.length sc] 69)).1
    have L7 := LongAt.new hv3 69
    have q0 := keepH q0 al
    have q2 := keepH q2 al
    have q3 := keepH q3 al
    have bel := bel.trans (al.mono (by omega))
    have l7 : w.heap.size + 4 ≤ w3.heap.size := by omega
    have hv4 := hv3.below al
    obtain ⟨hy, hy0, hy1⟩ := pred_facts hx h1'
    have sx := small_fit hx
    have s1 : small 1 := small_i (by decide) (by decide)
    clear hb3 al hv3 hr3 hin x0 x1 x2 x3 x4 x5 x6 x7 q1 hc sz sz2 sz3
    go_wp2_with fail
    generalize hw4 : w3.alloc (.cells #[.bool bb, .slice sa xs.length sc] 69) = w4 at *
    clear hw4
    generalize w3.heap.size = B7 at *
    have t1 : Below w4.heap.size w4 w4.drew := (Below.refl _ _).drew
    have hS : ∀ V, Below w4.heap.size w4 V → V.cell? ⟨B7, 0, none⟩ = some (.bool bb) ∧ V.cell? ⟨B7, 1, none⟩ = some (.slice sa xs.length sc) := fun V hV => by
      have e := keepH k7 hV
      exact ⟨(cellOf e).trans rfl, (cellOf e).trans rfl⟩
    have HV : ∀ V, Below w4.heap.size w4 V → LongV V (.agg #[.bool bb, .slice sa xs.length sc]) x := fun V hV => hv4.below hV
    have hy2 : x - 1 < (2 : Int) ^ 512 := by have := p_mono (show 511 ≤ 512 by decide); omega
    go_region_held3 (fun w' => w'.cell? ⟨B7, 0, none⟩ = some (.bool bb) ∧ w'.cell? ⟨B7, 1, none⟩ = some (.slice sa xs.length sc))
      ((refine hS _ ?_; with_reducible first | exact t1 | exact t2 | exact t3 | exact t4))
      (first | (go_at_call 28; ((with_reducible refine (long1_0 1 (by decide) (by decide)).mono ?_); rintro e w10 ⟨v10, rfl, h10, hb10⟩; have t2 := next0 t1 hb10))
             | (go_at_call 34; ((with_reducible refine (minus_c (HV _ t2) h10 sx s1).mono ?_); rintro e w11 ⟨v11, rfl, h11, hb11⟩; have t3 := next0 t2 hb11))
             | (go_at_call 42; ((with_reducible refine (rdigits_c h11 hy0 hy2).mono ?_); rintro e w12 ⟨v12, rfl, ⟨k, rfl, hlen⟩, hb12⟩; have t4 := next0 t3 hb12)))
    have q0 := keepH q0 t4
    have q2 := keepH q2 t4
    have q3 := keepH q3 t4
    have bel := bel.trans (t4.mono (by have := bel.size; omega))
    have L7 := L7.below t4
    have hk511 : k ≤ 511 := isLen_le hlen hy1
    clear t1 t2 t3 t4 hS HV h10 h11 hb10 hb11 hb12 k7 hv4 hy hy0 hy1 hy2 s1
    by_cases hk0 : k = 0
    · subst hk0
      have hx1 : x = 1 := by
        have := hlen.1
        have e : (2 : Int) ^ 0 = 1 := by decide
        omega
      subst hx1
      have hone := Lib.hid (wide_one s hlen)
      clear hlen L7 hk511 sx
      go_wp2_with fail
      rename_i hK
      refine rw_r6 (N := w.heap.size) (M := w.heap.size + 1 + 1) q0 q2 q3 (by omega) (by omega) _ _ _ _ _ _ _ _ _ _ _ _ _ _ _ _ _ _ _ _ _ _ _ _ _ _ _ _ _ _ _ _ _ _ _ _ _ _ _ _ _ _ _ _ _ _ _ _ _ _ _ _ _ _ _ _ _ _ _ _ _ _ _ _ _ _ _ _ _ _ _ _ _ _ _ _ _ _ _ _ _ _ _  _ _ _ ?_
      intro v34 v35 U j6 j7 jB
      have hb := jB w.heap.size w bel (by omega)
      refine hK _ _ ?_
      clear hK bel q0 q2 q3 jB
      obtain ⟨y0, y1, y2, y3, y4, y5, y6, y7⟩ := eightC j6
      have z0 : U.cell? ⟨w.heap.size + 1 + 1 + 1, 0, none⟩ = some (.int .u64 s) := (cellOf j7).trans rfl
      clear j6 j7
      go_wp2
      exact bodyPost_ret (v := .tuple #[.agg #[.int .u64 0, .int .u64 0, .int .u64 0, .int .u64 0, .int .u64 0, .int .u64 0, .int .u64 0, .int .u64 0], .agg #[.int .u64 s], .int .i64 0]) (by simp [results, Tryz.results12, go_sem, y0, y1, y2, y3, y4, y5, y6, y7, z0]) rfl ⟨_, rfl, .inr ⟨h1', hone.out⟩, hb⟩
    · have hkz : ((k : Int) == 0) = false := by simpa using hk0
      have hpow := fun (V : World) (v : Value) (n : Nat) (hn : n ≤ 600) (h : LongV V v 2) => raised_c h n hn (small_two (k := 1) (by decide)) (fun j hj => small_two (by omega))
      clear hk0
      go_wp2_with fail
      refine (long1_0 2 (by decide) (by decide)).mono ?_
      rintro e w5 ⟨y5, rfl, hy5, hb5⟩
      go_wp2_with fail
      refine (hpow _ _ 64 (by decide) hy5).mono ?_
      rintro e w6 ⟨y6, rfl, hy6, hb6⟩
      have hB6 := hb5.trans (hb6.mono hb5.size)
      have q0 := keepH q0 hB6
      have q2 := keepH q2 hB6
      have q3 := keepH q3 hB6
      have L7 := L7.below hB6
      obtain ⟨_, _, _, _, -, -, -, -, l79, -⟩ := L7.cells
      have bel := bel.trans (hB6.mono (by have := bel.size; omega))
      rw [show (2 : Int) ^ 64 = 18446744073709551616 by decide] at hy6
      have hy6c := hy6
      obtain ⟨c6, s6, x6, rfl, r6, -⟩ := hy6c
      obtain ⟨a6, d6, rfl, -⟩ := r6.len
      have al := (Below.refl w6.heap.size w6).alloc (Nat.le_refl _) (.cells #[.bool c6, .slice a6 x6.length d6] 69)
      have L9 := LongAt.new hy6 69
      have q0 := keepH q0 al
      have q2 := keepH q2 al
      have q3 := keepH q3 al
      have L7 := L7.below al
      have bel := bel.trans (al.mono (by have := bel.size; omega))
      clear hb5 hb6 hy5 hy6 r6 hB6 al
      go_wp2_with fail
      generalize w6.alloc (.cells #[.bool c6, .slice a6 x6.length d6] 69) = w7 at *
      generalize w6.heap.size = B9 at *
      refine (long1_0 2 (by decide) (by decide)).mono ?_
      rintro e w8 ⟨y8, rfl, hy8, hb8⟩
      go_wp2_with fail
      refine (hpow _ _ k (by omega) hy8).mono ?_
      rintro e w9 ⟨y9, rfl, hy9, hb9⟩
      have hB9 := hb8.trans (hb9.mono hb8.size)
      have q0 := keepH q0 hB9
      have q2 := keepH q2 hB9
      have q3 := keepH q3 hB9
      have L7 := L7.below hB9
      have L9 := L9.below hB9
      obtain ⟨_, _, _, _, -, -, -, -, l9, -⟩ := L9.cells
      have bel := bel.trans (hB9.mono (by have := bel.size; omega))
      have hy9c := hy9
      obtain ⟨c9, s9, x9, rfl, r9, -⟩ := hy9c
      obtain ⟨a9, d9, rfl, -⟩ := r9.len
      have al := (Below.refl w9.heap.size w9).alloc (Nat.le_refl _) (.cells #[.bool c9, .slice a9 x9.length d9] 69)
      have L10 := LongAt.new hy9 69
      have q0 := keepH q0 al
      have q2 := keepH q2 al
      have q3 := keepH q3 al
      have L7 := L7.below al
      have L9 := L9.below al
      have bel := bel.trans (al.mono (by have := bel.size; omega))
      clear hb8 hb9 hy8 hy9 r9 hB9 al
      go_wp2_with fail
      generalize w9.alloc (.cells #[.bool c9, .slice a9 x9.length d9] 69) = w10 at *
      generalize w9.heap.size = B10 at *
      have hs0 : sNs k s 0 = s := by unfold sNs; rw [Nat.mul_zero]; rfl
      have n7 : w.heap.size + 4 ≤ B7 := l7
      have hsk : small ((2 : Int) ^ k) := small_two (by omega)
      have hkne : (2 : Int) ^ k ≠ 0 := by have := p64_pos k; omega
      have n79 := l79
      have n910 := l9
      clear l7 hkz hpow
      go_loopw [11] (RwOut w B7 B9 B10 k s x) (fun i _ => 200 - (intOf i).toNat)
      case atStart => exact ⟨0, rfl, by omega, bel, by rw [hs0]; exact q0, q2, q3, L7, L9, L10, fun j hj => absurd hj (Nat.not_lt_zero _)⟩
      case round =>
        clear bel q0 q2 q3 L7 L9 L10
        obtain ⟨i, rfl, hi, bel, q0, q2, q3, L7, L9, L10, hno⟩ := hrel
        by_cases h8 : i < 200
        · have i0 : (0 : Int) ≤ (i : Int) := Int.natCast_nonneg i
          have i1 : (i : Int) < 200 := by omega
          go_wp2_with fail
          refine (long1_0 1 (by decide) (by decide)).mono ?_
          rintro e wa ⟨ya, rfl, hya, hba⟩
          have q0 := keepH q0 hba
          have q2 := keepH q2 hba
          have q3 := keepH q3 hba
          have L7 := L7.below hba
          have L9 := L9.below hba
          have L10 := L10.below hba
          obtain ⟨_, _, _, _, -, -, -, -, l7, -⟩ := L7.cells
          obtain ⟨_, _, _, _, -, -, -, -, l9', -⟩ := L9.cells
          obtain ⟨_, _, _, _, -, -, -, -, l10, -⟩ := L10.cells
          have bel := bel.trans (hba.mono bel.size)
          have hyac := hya
          obtain ⟨ca, sA, xa, rfl, ra, -⟩ := hyac
          obtain ⟨aa, da, rfl, -⟩ := ra.len
          have al := ((Below.refl wa.heap.size wa).alloc (Nat.le_refl _) (.cells #[.bool false, .slice none 0 0] 69)).alloc (by simp) (.cells #[.bool ca, .slice aa xa.length da] 69)
          obtain ⟨m12, m13⟩ := heap2 wa (.cells #[.bool false, .slice none 0 0] 69) (.cells #[.bool ca, .slice aa xa.length da] 69)
          have q0 := keepH q0 al
          have q2 := keepH q2 al
          have q3 := keepH q3 al
          have L7 := L7.below al
          have L9 := L9.below al
          have L10 := L10.below al
          have bel := bel.trans (al.mono bel.size)
          have L12 := at_zero m12
          have L13 := at_of m13 (hya.below al)
          have la : w.heap.size + 4 ≤ wa.heap.size := by omega
          clear hba hya ra al
          go_wp2_with fail
          rename_i hK
          generalize (wa.alloc (.cells #[.bool false, .slice none 0 0] 69)).alloc (.cells #[.bool ca, .slice aa xa.length da] 69) = wb at *
          refine rw_inner hk511 q0 L12 L13 L9 (by omega) (by omega) (by omega) (by omega) (by omega) (by omega) _ _ _ _ _ _ _ _ _ _ _ _ _ _ _ _ _ _ _ _ _ _ _ _ _ _ _ _ _ _ _ _ _ _ _ _ _ _ _ _ _ _ _ _ _ _ _ _ _ _ _ _ _ _ _ _ _ _ _ _ _ _ _ _ _ _ _ _ _ _ _ _ _ _ _ _ _ _ _ _  _ _ _ ?_
          intro v14 v15 v16 v47 v48 v49 v50 v51 v52 v53 v54 v55 v56 v57 v58 v59 v60 v61 v62 v63 v64 v65 v66 U hUN hU12 hkp
          refine hK _ _ ?_
          clear hK L12 L13
          rw [sNs_next] at hUN
          have q2 := (hkp.2.2 _ (ltH q2) (by omega) (by omega) (by omega)).trans q2
          have q3 := (hkp.2.2 _ (ltH q3) (by omega) (by omega) (by omega)).trans q3
          have L7 := L7.keeps hkp q0 m12 m13 (by omega) (by omega) (by omega)
          have L9 := L9.keeps hkp q0 m12 m13 (by omega) (by omega) (by omega)
          have L10 := L10.keeps hkp q0 m12 m13 (by omega) (by omega) (by omega)
          have bel := hkp.2.1 w.heap.size w bel (Nat.le_refl _) (by omega) (by omega) bel.size
          have hndk : nd k ≤ 8 := by unfold nd; omega
          obtain ⟨sr0, sr1⟩ := sumN_range (nd k) (sNs k s i)
          have sS := small_below sr0 sr1 (by omega)
          obtain ⟨cr0, cr1⟩ := candV_range k (sNs k s i)
          have sC : small (cNs k s i) := small_below cr0 cr1 (by omega)
          have hfc := (codeW_W hk511 (sNs k s i)).2
          have hfc : fit (cNs k s i) := hfc
          obtain ⟨p12, e12, n12, d12, y0, y1, -, -, -, hv12⟩ := hU12.cells
          obtain ⟨p10, e10, n10, d10, z0, z1, -, -, -, hv10⟩ := L10.cells
          clear q0 m12 m13 hkp sr0 sr1 cr0 cr1 hU12 hndk
          go_wp2_with fail
          refine (parts_l hv12 hv10 sS hsk hkne).mono ?_
          rintro e wc ⟨rc, rfl, ⟨pa, pb, rfl, hpa, hpb⟩, hbc⟩
          rw [cand_step] at hpb
          obtain ⟨c17, s17, x17, rfl, r17, -⟩ := hpa
          obtain ⟨a17, d17, rfl, -⟩ := r17.len
          have hpbc := hpb
          obtain ⟨c18, s18, x18, rfl, r18, -⟩ := hpbc
          obtain ⟨a18, d18, rfl, -⟩ := r18.len
          have qN := keepH hUN hbc
          have q2 := keepH q2 hbc
          have q3 := keepH q3 hbc
          have L7 := L7.below hbc
          have L9 := L9.below hbc
          have L10 := L10.below hbc
          have bel := bel.trans (hbc.mono bel.size)
          have al := ((Below.refl wc.heap.size wc).alloc (Nat.le_refl _) (.cells #[.bool c17, .slice a17 x17.length d17] 69)).alloc (by simp) (.cells #[.bool c18, .slice a18 x18.length d18] 69)
          obtain ⟨-, m18⟩ := heap2 wc (.cells #[.bool c17, .slice a17 x17.length d17] 69) (.cells #[.bool c18, .slice a18 x18.length d18] 69)
          have qN := keepH qN al
          have q2 := keepH q2 al
          have q3 := keepH q3 al
          have L7 := L7.below al
          have L9 := L9.below al
          have L10 := L10.below al
          have bel := bel.trans (al.mono bel.size)
          have Lb := hpb.below al
          obtain ⟨p7, e7, n7', d7, u0, u1, -, -, -, hv7⟩ := L7.cells
          have w0 := (cellOf (j := 0) m18).trans (show (#[Value.bool c18, .slice a18 x18.length d18] : Array Value)[0]? = some (.bool c18) from rfl)
          have w1' := (cellOf (j := 1) m18).trans (show (#[Value.bool c18, .slice a18 x18.length d18] : Array Value)[1]? = some (.slice a18 x18.length d18) from rfl)
          clear hbc hpb r17 r18 al y0 y1 z0 z1 hv12 hv10 sS hUN
          by_cases hlt : cNs k s i < x
          · have hord : ordI (cNs k s i) x = -1 := if_pos hlt
            clear L7 L9 L10
            go_wp2_with fail
            refine (order_l Lb hv7 sC sx).mono ?_
            rintro e we ⟨re, rfl, rfl, hbe⟩
            rw [hord]
            have qN := keepH qN hbe
            have q2 := keepH q2 hbe
            have q3 := keepH q3 hbe
            have m18 := keepH m18 hbe
            have Lb := Lb.below hbe
            have bel := bel.trans (hbe.mono bel.size)
            have w0 := (cellOf (j := 0) m18).trans (show (#[Value.bool c18, .slice a18 x18.length d18] : Array Value)[0]? = some (.bool c18) from rfl)
            have w1' := (cellOf (j := 1) m18).trans (show (#[Value.bool c18, .slice a18 x18.length d18] : Array Value)[1]? = some (.slice a18 x18.length d18) from rfl)
            obtain ⟨a0, a1, a2, a3, a4, a5, a6, a7, -, -, he⟩ := words_of hfc
            have er : resV (cNs k s i) (fit (cNs k s i)) = .tuple #[.agg #[.int .u64 a0, .int .u64 a1, .int .u64 a2, .int .u64 a3, .int .u64 a4, .int .u64 a5, .int .u64 a6, .int .u64 a7], .int .i64 0] := by unfold resV outV; rw [if_pos hfc, he]
            have hout := out_W Lb sC
            rw [er] at hout
            have HE := Lib.hid he
            clear hbe hv7 u0 u1 er he hord
            go_wp2_with fail
            refine hout.mono ?_
            rintro e wf ⟨rf, rfl, rfl, hbf⟩
            have qN := keepH qN hbf
            have q2 := keepH q2 hbf
            have q3 := keepH q3 hbf
            have bel := bel.trans (hbf.mono bel.size)
            have al := (Below.refl wf.heap.size wf).alloc (Nat.le_refl _) (.cells #[.int .u64 a0, .int .u64 a1, .int .u64 a2, .int .u64 a3, .int .u64 a4, .int .u64 a5, .int .u64 a6, .int .u64 a7] 26)
            have hT := (MapKept.heap_alloc wf (.cells #[.int .u64 a0, .int .u64 a1, .int .u64 a2, .int .u64 a3, .int .u64 a4, .int .u64 a5, .int .u64 a6, .int .u64 a7] 26)).1
            have d1 := ltH qN
            have d2 := ltH q2
            have d3 := ltH q3
            have qN := keepH qN al
            have q2 := keepH q2 al
            have q3 := keepH q3 al
            have bel := bel.trans (al.mono bel.size)
            clear hbf al hout Lb m18 w0 w1'
            go_wp2_with fail
            rename_i hK
            generalize wf.alloc (.cells #[.int .u64 a0, .int .u64 a1, .int .u64 a2, .int .u64 a3, .int .u64 a4, .int .u64 a5, .int .u64 a6, .int .u64 a7] 26) = wg at *
            refine rw_r23 (N := w.heap.size) (M := w.heap.size + 1 + 1) (T := wf.heap.size) qN hT q2 q3 (by omega) (by omega) (by omega) (by omega) _ _ _ _ _ _ _ _ _ _ _ _ _ _ _ _ _ _ _ _ _ _ _ _ _ _ _ _ _ _ _ _ _ _ _ _ _ _ _ _ _ _ _ _ _ _ _ _ _ _ _ _ _ _ _ _ _ _ _ _ _ _ _ _ _ _ _ _ _ _ _ _ _ _ _ _ _ _ _ _ _ _  _ _ _ ?_
            intro v82 v83 V j6 j7 jB
            have hb := jB w.heap.size w bel (by omega)
            refine hK _ _ ?_
            have HN := Lib.hid hno
            clear hK bel qN q2 q3 jB hT hno
            obtain ⟨y0, y1, y2, y3, y4, y5, y6, y7⟩ := eightC j6
            obtain ⟨s', hs'⟩ : ∃ s', s' = sNs k s (i + 1) := ⟨_, rfl⟩
            rw [← hs'] at j7
            have HS := Lib.hid hs'
            have z0 : V.cell? ⟨w.heap.size + 1 + 1 + 1, 0, none⟩ = some (.int .u64 s') := (cellOf j7).trans rfl
            have HL := Lib.hid hlen
            clear j6 j7 hs' hlen
            go_wp2
            exact bodyPost_ret (v := .tuple #[.agg #[.int .u64 a0, .int .u64 a1, .int .u64 a2, .int .u64 a3, .int .u64 a4, .int .u64 a5, .int .u64 a6, .int .u64 a7], .agg #[.int .u64 s'], .int .i64 0]) (by simp [results, Tryz.results12, go_sem, y0, y1, y2, y3, y4, y5, y6, y7, z0]) rfl ⟨_, rfl, .inr ⟨h1', k, hk511, HL.out, .inl ⟨i, h8, fun j hj => Int.not_lt.2 (HN.out j hj), hlt, by rw [HE.out, HS.out]⟩⟩, hb⟩
          · obtain ⟨v0, hv0, hv1⟩ : ∃ v, ordI (cNs k s i) x = v ∧ ¬ v < 0 := ⟨_, rfl, by unfold ordI; rw [if_neg hlt]; split <;> decide⟩
            have hord := order_l Lb hv7 sC sx
            rw [hv0] at hord
            have HN := Lib.hid hno
            clear hv0 hno
            go_wp2_with fail
            refine hord.mono ?_
            rintro e we ⟨re, rfl, rfl, hbe⟩
            have hfin : RwOut w B7 B9 B10 k s x (.int .i64 ((i : Int) + 1)) we := ⟨i + 1, rfl, by omega, bel.trans (hbe.mono bel.size), keepH qN hbe, keepH q2 hbe, keepH q3 hbe, L7.below hbe, L9.below hbe, L10.below hbe, fun j hj => by
              rcases Nat.lt_or_ge j i with h | h
              · exact Int.not_lt.2 (HN.out j h)
              · rw [show j = i by omega]; exact Int.not_lt.2 hlt⟩
            have HF := Lib.hid hfin
            clear hbe hord qN q2 q3 L7 L9 L10 bel hfin u0 u1 w0 w1' hv7 Lb m18 hlt
            go_wp2
            go_roundw
            case rel => exact HF.out
            case measure => simp [intOf]; omega
        · obtain rfl : i = 200 := by omega
          obtain ⟨z0, z1, z2, z3, z4, z5, z6, z7⟩ := eightC q2
          have fz : ∀ j, wr.frozen? ⟨w.heap.size + 1 + 1, j, none⟩ = false := fun j => frozenOf q2
          have c3 : wr.cell? ⟨w.heap.size + 3, 0, none⟩ = some (.int .u64 0) := (cellOf q3).trans rfl
          have f3 : wr.frozen? ⟨w.heap.size + 3, 0, none⟩ = false := frozenOf q3
          have hfin := (Below.set8 bel (B := w.heap.size + 1 + 1) (by omega) (.int .u64 0) (.int .u64 0) (.int .u64 0) (.int .u64 0) (.int .u64 0) (.int .u64 0) (.int .u64 0) (.int .u64 0)).setCell (p := ⟨w.heap.size + 3, 0, none⟩) (by show w.heap.size ≤ w.heap.size + 3; omega) (.int .u64 0)
          have hne : w.heap.size + 1 + 1 ≠ w.heap.size + 3 := by omega
          have HB := Lib.hid hfin
          have HN := Lib.hid hno
          have HL := Lib.hid hlen
          clear q0 q2 q3 bel hfin L7 L9 L10 hno hlen
          go_wp2
          exact bodyPost_ret (v := .tuple #[.agg #[.int .u64 0, .int .u64 0, .int .u64 0, .int .u64 0, .int .u64 0, .int .u64 0, .int .u64 0, .int .u64 0], .agg #[.int .u64 0], .int .i64 9]) (by simp [results, Tryz.results12, go_sem, z0, z1, z2, z3, z4, z5, z6, z7, c3]) rfl ⟨_, rfl, .inr ⟨h1', k, hk511, HL.out, .inr ⟨fun j hj => Int.not_lt.2 (HN.out j hj), rfl⟩⟩, HB.out⟩
end Go.Proofs.YtfeapgpjchjphaaGreat
