/-
  Wide random numbers: the number of binary digits, as the reference counts them.
  Wide random numbers: the step of the reference's sum.
  Wide random numbers: the reference's sum of a candidate.
-/
import Derived.Test.YtfeapgpjchjphaaGreatMWL
import Derived.Test.YtfeapgpjchjphaaGreatMEC
set_option linter.all false
namespace Go.Proofs.YtfeapgpjchjphaaGreat
open Go Go.Rx Go.RowKit Go.Big Go.Shelf
attribute [local instance] noAv
theorem pw_two : ∀ n : Nat, pw n = (2 : Int) ^ (32 * n)
  | 0 => rfl
  | n + 1 => by
    rw [pw_succ, pw_two n, Nat.mul_add, Int.pow_add, Int.mul_comm]
    congr 1
theorem small_two {k : Nat} (h : k ≤ 2047) : small ((2 : Int) ^ k) := by
  have h1 := p_mono h
  have h2 : pw 64 = (2 : Int) ^ 2047 * 2 := by rw [pw_two, show 32 * 64 = 2047 + 1 by decide, Int.pow_succ]
  have h3 := p64_pos k
  have h4 := p64_pos 2047
  unfold small
  rw [h2]
  generalize (2 : Int) ^ 2047 = P at *
  generalize (2 : Int) ^ k = q at *
  omega
theorem small_below {x : Int} {k : Nat} (h0 : 0 ≤ x) (h1 : x < (2 : Int) ^ k) (h : k ≤ 2047) : small x := by
  have := small_two h
  unfold small at *
  omega
theorem ord_le {x y : Int} (h : ¬ y < x) : ordI x y ≤ 0 := by
  unfold ordI
  split
  · decide
  · first | decide | (rw [if_neg h]; decide)
/-- The digits tried so far. -/
def RdRel (w1 : World) (n : Int) (a : Value) (wr : World) : Prop := ∃ k : Nat, a = .int .i64 k ∧ k ≤ 512 ∧ (k = 0 ∨ (2 : Int) ^ (k - 1) ≤ n) ∧ Below w1.heap.size w1 wr
set_option maxHeartbeats 3200000 in
set_option maxRecDepth 100000 in
theorem rdigits_c {w : World} {u : Value} {n : Int} (h : LongV w u n) (h0 : 0 ≤ n) (h1 : n < (2 : Int) ^ 512) : Calls Tryz.prog 42 #[u] w (Gets (fun _ r => ∃ L : Nat, r = .int .i64 L ∧ IsLen L n) w) := by
  obtain ⟨bb, ss, xs, rfl, hr, hg⟩ := h
  obtain ⟨sa, sc, rfl, hsl⟩ := hr.len
  have hv : LongV w (.agg #[.bool bb, .slice sa xs.length sc]) n := ⟨bb, _, xs, rfl, hr, hg⟩
  have sn : small n := small_below h0 h1 (by decide)
  have al := (Below.refl w.heap.size w).alloc (Nat.le_refl _) (.cells #[.bool bb, .slice sa xs.length sc] 69)
  have kB := (MapKept.heap_alloc w (.cells #[.bool bb, .slice sa xs.length sc] 69)).1
  have hv1 := hv.below al
  have H1 := Lib.hid h1
  clear hr hg hv h1
  go_enter Tryz.func42, Tryz.ntmps42
  go_wp2_with fail
  generalize hw1 : w.alloc (.cells #[.bool bb, .slice sa xs.length sc] 69) = w1 at *
  clear hw1
  go_loopw [3] (RdRel w1 n) (fun i _ => 513 - (intOf i).toNat)
  case atStart => exact ⟨0, rfl, by omega, .inl rfl, Below.refl _ _⟩
  case round =>
    obtain ⟨k, rfl, hk, hlow, hb⟩ := hrel
    have kB := keepH kB hb
    have hvr := hv1.below hb
    have lB := ltH kB
    have t1 : Below wr.heap.size wr wr.drew := (Below.refl _ _).drew
    have hS : ∀ W, Below wr.heap.size wr W → W.cell? ⟨w.heap.size, 0, none⟩ = some (.bool bb) ∧ W.cell? ⟨w.heap.size, 1, none⟩ = some (.slice sa xs.length sc) := fun W hW => by
      have e := keepH kB hW
      exact ⟨(cellOf e).trans rfl, (cellOf e).trans rfl⟩
    have HV : ∀ W, Below wr.heap.size wr W → LongV W (.agg #[.bool bb, .slice sa xs.length sc]) n := fun W hW => hvr.below hW
    have hrais := fun (W : World) (v : Value) (h : LongV W v 2) => raised_c h k (by omega) (small_two (k := 1) (by decide)) (fun j hj => small_two (by omega))
    have sk : small ((2 : Int) ^ k) := small_two (by omega)
    have hb1 := al.trans (hb.mono al.size)
    have hsz := hb.size
    by_cases hlt : n < (2 : Int) ^ k
    · have hord : ∀ W v1 v2, LongV W v1 ((2 : Int) ^ k) → LongV W v2 n → Calls Tryz.prog 31 #[v1, v2] W (Gets (fun _ r => r = .int .i64 1) W) := fun W v1 v2 h1 h2 => by
        have := order_l h1 h2 sk sn
        rw [show ordI ((2 : Int) ^ k) n = 1 from by unfold ordI; rw [if_neg (by omega), if_pos hlt]] at this
        exact this
      have hlen : IsLen k n := ⟨hlt, hlow⟩
      have hfin : ∀ W, Below wr.heap.size wr W → Below w.heap.size w W := fun W hW => hb1.trans (hW.mono hb1.size)
      have HL := Lib.hid hlen
      clear hlt hlow hlen sk sn hb hvr kB hv1 al hsz
      generalize (2 : Int) ^ k = q at *
      go_wp2_with fail
      go_region_held3 (fun w' => w'.cell? ⟨w.heap.size, 0, none⟩ = some (.bool bb) ∧ w'.cell? ⟨w.heap.size, 1, none⟩ = some (.slice sa xs.length sc))
        ((refine hS _ ?_; with_reducible first | exact t1 | exact t2 | exact t3 | exact t4))
        (first | (go_at_call 28; ((with_reducible refine (long1_0 2 (by decide) (by decide)).mono ?_); rintro e w10 ⟨v10, rfl, h10, hb10⟩; have t2 := next0 t1 hb10))
               | (go_at_call 27; ((with_reducible refine (hrais _ _ h10).mono ?_); rintro e w11 ⟨v11, rfl, h11, hb11⟩; have t3 := next0 t2 hb11))
               | (go_at_call 31; ((with_reducible refine (hord _ _ _ h11 (HV _ t3)).mono ?_); rintro e w12 ⟨v12, rfl, rfl, hb12⟩; have t4 := next0 t3 hb12)))
      have hfin := hfin _ t4
      clear hord HV hS t1 t2 t3 t4 hrais h10 h11 hb10 hb11 hb12 hb1
      go_wp2
      go_ret
      exact ⟨_, rfl, ⟨k, rfl, HL.out⟩, hfin⟩
    · obtain ⟨v0, hv0, hv1'⟩ : ∃ v, ordI ((2 : Int) ^ k) n = v ∧ v ≤ 0 := ⟨_, rfl, ord_le hlt⟩
      have hord : ∀ W v1 v2, LongV W v1 ((2 : Int) ^ k) → LongV W v2 n → Calls Tryz.prog 31 #[v1, v2] W (Gets (fun _ r => r = .int .i64 v0) W) := fun W v1 v2 h1 h2 => by
        have := order_l h1 h2 sk sn
        rw [hv0] at this
        exact this
      have hk5 : k ≤ 511 := by
        rcases Nat.lt_or_ge k 512 with h | h
        · omega
        · have := p_mono h
          have := H1.out
          omega
      have hle : (2 : Int) ^ k ≤ n := by omega
      have hfin : ∀ W, Below wr.heap.size wr W → RdRel w1 n (.int .i64 ((k : Int) + 1)) W := fun W hW => ⟨k + 1, rfl, by omega, .inr hle, hb.trans (hW.mono hsz)⟩
      have k5 : (k : Int) ≤ 511 := by omega
      have HF := Lib.hid hfin
      clear hlt hlow sk sn hvr kB hv1 al hsz hv0 hle hfin hb
      generalize (2 : Int) ^ k = q at *
      go_wp2_with fail
      go_region_held3 (fun w' => w'.cell? ⟨w.heap.size, 0, none⟩ = some (.bool bb) ∧ w'.cell? ⟨w.heap.size, 1, none⟩ = some (.slice sa xs.length sc))
        ((refine hS _ ?_; with_reducible first | exact t1 | exact t2 | exact t3 | exact t4))
        (first | (go_at_call 28; ((with_reducible refine (long1_0 2 (by decide) (by decide)).mono ?_); rintro e w10 ⟨v10, rfl, h10, hb10⟩; have t2 := next0 t1 hb10))
               | (go_at_call 27; ((with_reducible refine (hrais _ _ h10).mono ?_); rintro e w11 ⟨v11, rfl, h11, hb11⟩; have t3 := next0 t2 hb11))
               | (go_at_call 31; ((with_reducible refine (hord _ _ _ h11 (HV _ t3)).mono ?_); rintro e w12 ⟨v12, rfl, rfl, hb12⟩; have t4 := next0 t3 hb12)))
      have hfin := HF.out _ t4
      have HF2 := Lib.hid hfin
      clear hord HV hS t1 t2 t3 t4 hrais h10 h11 hb10 hb11 hb12 hb1 HF hfin
      go_wp2
      go_roundw
      case rel => exact HF2.out
      case measure => simp [intOf]; omega
end Go.Proofs.YtfeapgpjchjphaaGreat
namespace Go.Proofs.YtfeapgpjchjphaaGreat
open Go Go.Rx Go.RowKit Go.Big Go.Shelf
attribute [local instance] noAv
noncomputable def rwR18 : Code := ((Tryz.f12.body.bind (findRs 18)).getD .skip)
theorem LongAt.cells {W : World} {B : Nat} {z : Int} (h : LongAt W B z) : ∃ bb sa n sc, W.cell? ⟨B, 0, none⟩ = some (.bool bb) ∧ W.cell? ⟨B, 1, none⟩ = some (.slice sa n sc) ∧ W.frozen? ⟨B, 0, none⟩ = false ∧ W.frozen? ⟨B, 1, none⟩ = false ∧ B < W.heap.size ∧ LongV W (.agg #[.bool bb, .slice sa n sc]) z := h
set_option maxHeartbeats 6400000 in
set_option maxRecDepth 100000 in
theorem rw_r18 {W : World} {B12 B13 : Nat} {S P m : Int} (h12 : LongAt W B12 S) (h13 : LongAt W B13 P) (hne : B12 ≠ B13) (m0 : 0 ≤ m) (m1 : m < 18446744073709551616) (sS : small S) (sP : small P) (sm : small (m * P))
    (c0 c1 c2 c3 c4 c5 c6 c7 c8 c9 c10 c11 c14 c16 c17 c18 c19 c20 c21 c22 c23 c24 c25 c26 c27 c28 c29 c30 c31 c32 c33 c34 c35 c36 c37 c38 c39 c40 c41 c42 c43 c44 c45 c46 c47 c48 c49 c50 c51 c52 c53 c54 c55 c56 c57 c58 c59 c60 c61 c62 c63 c64 c65 c66 c67 c68 c69 c70 c71 c72 c73 c74 c75 c76 c77 c78 c79 c80 c81 c82 c83 c84 c85 : Value) (ds : List Deferred) (K' : Act → World → Prop) (Q' : Exit → Act → World → Prop)
    (hKK : ∀ (v58 v59 v60 v61 v62 v63 : Value) (bb : Bool) (sa : Option Addr) (n sc : Nat) (U : World), Below W.heap.size W U → LongV U (.agg #[.bool bb, .slice sa n sc]) (S + m * P) → K' ⟨(List.toArray (c0 :: c1 :: c2 :: c3 :: c4 :: c5 :: c6 :: c7 :: c8 :: c9 :: c10 :: c11 :: .pointer (some ⟨B12, 0, none⟩) :: .pointer (some ⟨B13, 0, none⟩) :: c14 :: .int .u64 m :: c16 :: c17 :: c18 :: c19 :: c20 :: c21 :: c22 :: c23 :: c24 :: c25 :: c26 :: c27 :: c28 :: c29 :: c30 :: c31 :: c32 :: c33 :: c34 :: c35 :: c36 :: c37 :: c38 :: c39 :: c40 :: c41 :: c42 :: c43 :: c44 :: c45 :: c46 :: c47 :: c48 :: c49 :: c50 :: c51 :: c52 :: c53 :: c54 :: c55 :: c56 :: c57 :: v58 :: v59 :: v60 :: v61 :: v62 :: v63 :: c64 :: c65 :: c66 :: c67 :: c68 :: c69 :: c70 :: c71 :: c72 :: c73 :: c74 :: c75 :: c76 :: c77 :: c78 :: c79 :: c80 :: c81 :: c82 :: c83 :: c84 :: c85 :: [])), ds⟩ ((U.setCell ⟨B12, 0, none⟩ (.bool bb)).setCell ⟨B12, 1, none⟩ (.slice sa n sc))) :
    Code.wp Tryz.prog rwR18 (Exit.then K' Q') ⟨(List.toArray (c0 :: c1 :: c2 :: c3 :: c4 :: c5 :: c6 :: c7 :: c8 :: c9 :: c10 :: c11 :: .pointer (some ⟨B12, 0, none⟩) :: .pointer (some ⟨B13, 0, none⟩) :: c14 :: .int .u64 m :: c16 :: c17 :: c18 :: c19 :: c20 :: c21 :: c22 :: c23 :: c24 :: c25 :: c26 :: c27 :: c28 :: c29 :: c30 :: c31 :: c32 :: c33 :: c34 :: c35 :: c36 :: c37 :: c38 :: c39 :: c40 :: c41 :: c42 :: c43 :: c44 :: c45 :: c46 :: c47 :: c48 :: c49 :: c50 :: c51 :: c52 :: c53 :: c54 :: c55 :: c56 :: c57 :: c58 :: c59 :: c60 :: c61 :: c62 :: c63 :: c64 :: c65 :: c66 :: c67 :: c68 :: c69 :: c70 :: c71 :: c72 :: c73 :: c74 :: c75 :: c76 :: c77 :: c78 :: c79 :: c80 :: c81 :: c82 :: c83 :: c84 :: c85 :: [])), ds⟩ W := by
  have HKK := Lib.hid hKK
  clear hKK
  obtain ⟨b2, a2, n2, s2, g0, g1, f0, f1, l12, hv12⟩ := h12
  obtain ⟨b3, a3, n3, s3, e0, e1, -, -, l13, hv13⟩ := h13
  have t1 : Below W.heap.size W W.drew := (Below.refl _ _).drew
  have C12 : ∀ U, Below W.heap.size W U → U.cell? ⟨B12, 0, none⟩ = some (.bool b2) ∧ U.cell? ⟨B12, 1, none⟩ = some (.slice a2 n2 s2) := fun U hU => ⟨(hU.cell (p := ⟨B12, 0, none⟩) l12).trans g0, (hU.cell (p := ⟨B12, 1, none⟩) l12).trans g1⟩
  have F12 : ∀ U, Below W.heap.size W U → U.frozen? ⟨B12, 0, none⟩ = false ∧ U.frozen? ⟨B12, 1, none⟩ = false := fun U hU => ⟨(hU.frozen (p := ⟨B12, 0, none⟩) l12).trans f0, (hU.frozen (p := ⟨B12, 1, none⟩) l12).trans f1⟩
  have C13 : ∀ U, Below W.heap.size W U → U.cell? ⟨B13, 0, none⟩ = some (.bool b3) ∧ U.cell? ⟨B13, 1, none⟩ = some (.slice a3 n3 s3) := fun U hU => ⟨(hU.cell (p := ⟨B13, 0, none⟩) l13).trans e0, (hU.cell (p := ⟨B13, 1, none⟩) l13).trans e1⟩
  have V12 : ∀ U, Below W.heap.size W U → LongV U (.agg #[.bool b2, .slice a2 n2 s2]) S := fun U hU => hv12.below hU
  have V13 : ∀ U, Below W.heap.size W U → LongV U (.agg #[.bool b3, .slice a3 n3 s3]) P := fun U hU => hv13.below hU
  obtain ⟨p1, p2⟩ := C12 _ t1
  obtain ⟨p3, p4⟩ := C13 _ t1
  have smm : small m := small_i (by omega) (by omega)
  clear g0 g1 e0 e1 f0 f1 hv12 hv13
  conv => arg 2; whnf
  refine wp_region_noPanic ?_
  go_region_with (first | (go_at_call 32; (with_reducible refine (words_c m0 m1).mono ?_); rintro e w5 ⟨v5, rfl, h5, hb5⟩; have t2 := next0 t1 hb5; obtain ⟨p5, p6⟩ := C12 _ t2; obtain ⟨p7, p8⟩ := C13 _ t2) | (go_at_call 29; (with_reducible refine (times_c h5 (V13 _ t2) smm sP).mono ?_); rintro e w6 ⟨v6, rfl, h6, hb6⟩; have t3 := next0 t2 hb6; obtain ⟨q5, q6⟩ := C12 _ t3) | (go_at_call 33; (with_reducible refine (plus_c (V12 _ t3) h6 sS sm).mono ?_); rintro e w7 ⟨v7, rfl, h7, hb7⟩; have t4 := next0 t3 hb7; obtain ⟨y1, y2⟩ := C12 _ t4; obtain ⟨y3, y4⟩ := F12 _ t4; have h7c := h7; obtain ⟨b7, s7, z7, rfl, r7, -⟩ := h7c; obtain ⟨a7, c7, rfl, -⟩ := r7.len))
  all_goals first | exact HKK.out _ _ _ _ _ _ _ _ _ _ _ t4 h7 | (refine NoPanic.normal ?_; exact HKK.out _ _ _ _ _ _ _ _ _ _ _ t4 h7)
end Go.Proofs.YtfeapgpjchjphaaGreat
namespace Go.Proofs.YtfeapgpjchjphaaGreat
open Go Go.Rx Go.RowKit Go.Big Go.Shelf
attribute [local instance] noAv
def findBs (n : Nat) : Code → Option Code
  | .block k c => bif Nat.beq k n then some c else findBs n c
  | .seq a b => match findBs n a with | some c => some c | none => findBs n b
  | .loop c => findBs n c
  | .scope c => findBs n c
  | .cond _ a b => match findBs n a with | some c => some c | none => findBs n b
  | _ => none
noncomputable def rwB2 : Code := ((Tryz.f12.body.bind (findBs 2)).getD .skip)
/-- Only the state's block, and the two variables, are not as they were. -/
def Keeps (N B12 B13 : Nat) (W U : World) : Prop := W.heap.size ≤ U.heap.size ∧ (∀ n w0, Below n w0 W → n ≤ N → n ≤ B12 → n ≤ B13 → n ≤ W.heap.size → Below n w0 U) ∧ ∀ T, T < W.heap.size → T ≠ N → T ≠ B12 → T ≠ B13 → U.heap[T]? = W.heap[T]?
theorem LongAt.apart {W : World} {B C : Nat} {z y : Int} (h : LongAt W B z) (hC : LongAt W C y) (hne : C ≠ B) (u u' : Value) : LongAt ((W.setCell ⟨C, 0, none⟩ u).setCell ⟨C, 1, none⟩ u') B z := by
  obtain ⟨bb, sa, n, sc, h0, h1, f0, f1, hB, hv⟩ := h
  obtain ⟨b2, a2, n2, s2, g0, g1, -, -, -, -⟩ := hC
  have o := fun (V : World) (i j : Nat) (x : Value) => World.cell?_setCell_other V ⟨C, i, none⟩ ⟨B, j, none⟩ x (by intro e; injection e with e; exact hne e)
  refine ⟨bb, sa, n, sc, ?_, ?_, by simpa using f0, by simpa using f1, by simpa using hB, hv.box2 g0 g1 u u'⟩
  · rw [o, o]; exact h0
  · rw [o, o]; exact h1
/-- The words summed so far. -/
def RwIn (W : World) (N B9 B12 B13 k : Nat) (s : Int) (a : Value) (U : World) : Prop :=
  ∃ m : Nat, a = .int .i64 ((64 * m : Nat) : Int) ∧ m ≤ nd k ∧ U.heap[N]? = some (.cells #[.int .u64 (stN m s)] 24) ∧ LongAt U B12 (sumN m s) ∧ LongAt U B13 ((2 : Int) ^ (64 * m)) ∧ LongAt U B9 18446744073709551616 ∧ Keeps N B12 B13 W U
theorem Keeps.below {N B12 B13 : Nat} {W U U' : World} (h : Keeps N B12 B13 W U) (hb : Below U.heap.size U U') : Keeps N B12 B13 W U' :=
  ⟨Nat.le_trans h.1 hb.size, fun n w0 k1 k2 k3 k4 k5 => (h.2.1 n w0 k1 k2 k3 k4 k5).trans (hb.mono (Nat.le_trans k5 h.1)), fun T k1 k2 k3 k4 => (hb.block T (Nat.lt_of_lt_of_le k1 h.1)).trans (h.2.2 T k1 k2 k3 k4)⟩
theorem Keeps.set {N B12 B13 C : Nat} {W U : World} (h : Keeps N B12 B13 W U) (hC : C = N ∨ C = B12 ∨ C = B13) (i : Nat) (v : Value) : Keeps N B12 B13 W (U.setCell ⟨C, i, none⟩ v) :=
  ⟨by simpa using h.1, fun n w0 k1 k2 k3 k4 k5 => (h.2.1 n w0 k1 k2 k3 k4 k5).setCell (p := ⟨C, i, none⟩) (by show n ≤ C; rcases hC with rfl | rfl | rfl <;> assumption) v, fun T k1 k2 k3 k4 => (setFar (a := ⟨C, i, none⟩) (by show T ≠ C; rcases hC with rfl | rfl | rfl <;> assumption) v).trans (h.2.2 T k1 k2 k3 k4)⟩
theorem nd_lt {k m : Nat} : 64 * m < k ↔ m < nd k := by unfold nd; omega
theorem nd_facts {k m : Nat} (hk : k ≤ 511) (h : m < nd k) : 64 * m ≤ 511 ∧ 64 * (m + 1) ≤ 575 := by unfold nd at h; omega
set_option maxHeartbeats 6400000 in
set_option maxRecDepth 100000 in
theorem rw_inner {W : World} {N B9 B12 B13 k : Nat} {s : Int} (hk : k ≤ 511) (hN : W.heap[N]? = some (.cells #[.int .u64 s] 24)) (h12 : LongAt W B12 0) (h13 : LongAt W B13 1) (h9 : LongAt W B9 18446744073709551616) (d1 : N ≠ B9) (d2 : N ≠ B12) (d3 : N ≠ B13) (d4 : B12 ≠ B13) (d5 : B12 ≠ B9) (d6 : B13 ≠ B9)
    (c0 c1 c3 c4 c5 c6 c7 c10 c11 c15 c16 c17 c18 c19 c20 c21 c22 c23 c24 c25 c26 c27 c28 c29 c30 c31 c32 c33 c34 c35 c36 c37 c38 c39 c40 c41 c42 c43 c44 c45 c46 c47 c48 c49 c50 c51 c52 c53 c54 c55 c56 c57 c58 c59 c60 c61 c62 c63 c64 c65 c66 c67 c68 c69 c70 c71 c72 c73 c74 c75 c76 c77 c78 c79 c80 c81 c82 c83 c84 c85 : Value) (ds : List Deferred) (K' : Act → World → Prop) (Q' : Exit → Act → World → Prop)
    (hKK : ∀ (v14 v15 v16 v47 v48 v49 v50 v51 v52 v53 v54 v55 v56 v57 v58 v59 v60 v61 v62 v63 v64 v65 v66 : Value) (U : World), U.heap[N]? = some (.cells #[.int .u64 (stN (nd k) s)] 24) → LongAt U B12 (sumN (nd k) s) → Keeps N B12 B13 W U → K' ⟨(List.toArray (c0 :: c1 :: .pointer (some ⟨N, 0, none⟩) :: c3 :: c4 :: c5 :: c6 :: c7 :: .int .i64 (k : Int) :: .pointer (some ⟨B9, 0, none⟩) :: c10 :: c11 :: .pointer (some ⟨B12, 0, none⟩) :: .pointer (some ⟨B13, 0, none⟩) :: v14 :: v15 :: v16 :: c17 :: c18 :: c19 :: c20 :: c21 :: c22 :: c23 :: c24 :: c25 :: c26 :: c27 :: c28 :: c29 :: c30 :: c31 :: c32 :: c33 :: c34 :: c35 :: c36 :: c37 :: c38 :: c39 :: c40 :: c41 :: c42 :: c43 :: c44 :: c45 :: c46 :: v47 :: v48 :: v49 :: v50 :: v51 :: v52 :: v53 :: v54 :: v55 :: v56 :: v57 :: v58 :: v59 :: v60 :: v61 :: v62 :: v63 :: v64 :: v65 :: v66 :: c67 :: c68 :: c69 :: c70 :: c71 :: c72 :: c73 :: c74 :: c75 :: c76 :: c77 :: c78 :: c79 :: c80 :: c81 :: c82 :: c83 :: c84 :: c85 :: [])), ds⟩ U) :
    Code.wp Tryz.prog rwB2 (Exit.inBlock 2 (Exit.then K' Q')) ⟨(List.toArray (c0 :: c1 :: .pointer (some ⟨N, 0, none⟩) :: c3 :: c4 :: c5 :: c6 :: c7 :: .int .i64 (k : Int) :: .pointer (some ⟨B9, 0, none⟩) :: c10 :: c11 :: .pointer (some ⟨B12, 0, none⟩) :: .pointer (some ⟨B13, 0, none⟩) :: .int .i64 0 :: c15 :: c16 :: c17 :: c18 :: c19 :: c20 :: c21 :: c22 :: c23 :: c24 :: c25 :: c26 :: c27 :: c28 :: c29 :: c30 :: c31 :: c32 :: c33 :: c34 :: c35 :: c36 :: c37 :: c38 :: c39 :: c40 :: c41 :: c42 :: c43 :: c44 :: c45 :: c46 :: c47 :: c48 :: c49 :: c50 :: c51 :: c52 :: c53 :: c54 :: c55 :: c56 :: c57 :: c58 :: c59 :: c60 :: c61 :: c62 :: c63 :: c64 :: c65 :: c66 :: c67 :: c68 :: c69 :: c70 :: c71 :: c72 :: c73 :: c74 :: c75 :: c76 :: c77 :: c78 :: c79 :: c80 :: c81 :: c82 :: c83 :: c84 :: c85 :: [])), ds⟩ W := by
  have HKK := Lib.hid hKK
  clear hKK
  have hk1 : (k : Int) ≤ 511 := by omega
  have hk0 : (0 : Int) ≤ (k : Int) := Int.natCast_nonneg k
  conv => arg 2; whnf
  go_loopw [14] (RwIn W N B9 B12 B13 k s) (fun i _ => 600 - (intOf i).toNat)
  case atStart => exact ⟨0, rfl, Nat.zero_le _, hN, h12, h13, h9, Nat.le_refl _, fun _ _ h _ _ _ _ => h, fun _ _ _ _ _ => rfl⟩
  case round =>
    clear hN h12 h13 h9
    obtain ⟨m, rfl, hm, hN, h12, h13, h9, hkeep⟩ := hrel
    by_cases h8 : m < nd k
    · obtain ⟨n1, n2⟩ := nd_facts hk h8
      have hjk : ((64 * m : Nat) : Int) < (k : Int) := by have := nd_lt.2 h8; omega
      obtain ⟨r0, r1⟩ := sumN_range m s
      have hP := p64_pos (64 * m)
      obtain ⟨m0, m1⟩ := mix_range (stN m s)
      obtain ⟨u0, u1⟩ := mul_range m0 m1 hP
      have hp1 := p64 m
      have sS : small (sumN m s) := small_below r0 r1 (by omega)
      have sP : small ((2 : Int) ^ (64 * m)) := small_two (by omega)
      have sm : small (mix (stN m s) * (2 : Int) ^ (64 * m)) := small_below u0 (show _ < (2 : Int) ^ (64 * (m + 1)) by rw [hp1]; omega) (by omega)
      have s64 : small 18446744073709551616 := small_i (by decide) (by decide)
      have hsum : sumN m s + mix (stN m s) * (2 : Int) ^ (64 * m) = sumN (m + 1) s := rfl
      have hpow : (2 : Int) ^ (64 * m) * 18446744073709551616 = (2 : Int) ^ (64 * (m + 1)) := by rw [hp1, Int.mul_comm]
      have c1 : wr.cell? ⟨N, 0, none⟩ = some (.int .u64 (stN m s)) := (cellOf hN).trans rfl
      have hJ : (((64 * m : Nat) : Int)) + 64 = ((64 * (m + 1) : Nat) : Int) := by omega
      have hm1 : m + 1 ≤ nd k := h8
      have hJ0 : (0 : Int) ≤ ((64 * m : Nat) : Int) := Int.natCast_nonneg _
      have hms : ((64 * m : Nat) : Int) ≤ 511 := by omega
      clear r0 r1 hP u0 u1 hp1 h8 n1 n2
      generalize hJd : ((64 * m : Nat) : Int) = J at *
      have HJd := Lib.hid hJd
      have HJ := Lib.hid hJ
      clear hJd hJ hm
      go_wp2_with fail
      refine (refNext_c (stN m s)).mono ?_
      rintro e w8 ⟨r8, rfl, rfl, hb8⟩
      unfold nextV
      rw [show st (stN m s) = stN (m + 1) s from rfl]
      have al := (Below.refl w8.heap.size w8).alloc (Nat.le_refl _) (.cells #[.int .u64 (stN (m + 1) s)] 24)
      have q16 := (MapKept.heap_alloc w8 (.cells #[.int .u64 (stN (m + 1) s)] 24)).1
      have hN8 := keepH (keepH hN hb8) al
      have i12 := (h12.below hb8).below al
      have i13 := (h13.below hb8).below al
      have i9 := (h9.below hb8).below al
      have kp := (hkeep.below hb8).below al
      have c8 := (cellOf (j := 0) hN8).trans (show (#[Value.int .u64 (stN m s)] : Array Value)[0]? = some (.int .u64 (stN m s)) from rfl)
      have i12 := i12.far (C := N) d2 c8 (.int .u64 (stN (m + 1) s))
      have i13 := i13.far (C := N) d3 c8 (.int .u64 (stN (m + 1) s))
      have i9 := i9.far (C := N) d1 c8 (.int .u64 (stN (m + 1) s))
      have jN := heap_setCell_same _ N 0 _ 24 (.int .u64 (stN (m + 1) s)) hN8
      have kp := kp.set (.inl rfl) 0 (.int .u64 (stN (m + 1) s))
      have f1 : (w8.alloc (.cells #[.int .u64 (stN (m + 1) s)] 24)).frozen? ⟨N, 0, none⟩ = false := frozenOf hN8
      have hNX : N ≠ w8.heap.size := by have := ltH (keepH hN hb8); omega
      clear hb8 al hN8 h12 h13 h9 hkeep hN c1
      go_wp2_with fail
      rename_i hK
      generalize (w8.alloc (.cells #[.int .u64 (stN (m + 1) s)] 24)).setCell ⟨N, 0, none⟩ (.int .u64 (stN (m + 1) s)) = w10 at *
      clear q16 c8 f1
      refine rw_r18 i12 i13 d4 m0 m1 sS sP sm _ _ _ _ _ _ _ _ _ _ _ _ _ _ _ _ _ _ _ _ _ _ _ _ _ _ _ _ _ _ _ _ _ _ _ _ _ _ _ _ _ _ _ _ _ _ _ _ _ _ _ _ _ _ _ _ _ _ _ _ _ _ _ _ _ _ _ _ _ _ _ _ _ _ _ _ _ _ _ _ _ _ _  _ _ _ ?_
      rintro v58 v59 v60 v61 v62 v63 bb sa n sc U2 hb2 hv2
      rw [hsum] at hv2
      refine hK _ _ ?_
      clear hK
      have a12 := (i12.below hb2)
      have a13 := (i13.below hb2).apart a12 d4 (.bool bb) (.slice sa n sc)
      have a9 := (i9.below hb2).apart a12 d5 (.bool bb) (.slice sa n sc)
      have a12 := a12.store hv2
      have aN := ((setFar (a := ⟨B12, 1, none⟩) (T := N) (by show N ≠ B12; exact d2) (.slice sa n sc)).trans (setFar (w := U2) (a := ⟨B12, 0, none⟩) (T := N) (by show N ≠ B12; exact d2) (.bool bb))).trans (keepH jN hb2)
      have kp := ((kp.below hb2).set (.inr (.inl rfl)) 0 (.bool bb)).set (.inr (.inl rfl)) 1 (.slice sa n sc)
      clear i12 i13 i9 jN hb2 hv2
      generalize (U2.setCell ⟨B12, 0, none⟩ (.bool bb)).setCell ⟨B12, 1, none⟩ (.slice sa n sc) = w11 at *
      obtain ⟨b3, sa3, n3, sc3, x0, x1, y0, y1, l3, hv3⟩ := a13.cells
      obtain ⟨b4, sa4, n4, sc4, z0, z1, -, -, l4, hv4⟩ := a9.cells
      go_wp2_with fail
      refine (times_c hv3 hv4 sP s64).mono ?_
      rintro e w12 ⟨v12', rfl, hv5, hb5⟩
      rw [hpow] at hv5
      have hv5c := hv5
      obtain ⟨b5, s5, xs5, rfl, hr5, -⟩ := hv5c
      obtain ⟨a5, c5', rfl, -⟩ := hr5.len
      have e13 := a13.below hb5
      have e12 := (a12.below hb5).apart e13 (Ne.symm d4) (.bool b5) (.slice a5 xs5.length c5')
      have e9 := (a9.below hb5).apart e13 d6 (.bool b5) (.slice a5 xs5.length c5')
      obtain ⟨_, _, _, _, x0, x1, y0, y1, -, -⟩ := e13.cells
      have e13 := e13.store hv5
      have eN := ((setFar (a := ⟨B13, 1, none⟩) (T := N) (by show N ≠ B13; exact d3) (.slice a5 xs5.length c5')).trans (setFar (w := w12) (a := ⟨B13, 0, none⟩) (T := N) (by show N ≠ B13; exact d3) (.bool b5))).trans (keepH aN hb5)
      have kp := ((kp.below hb5).set (.inr (.inr rfl)) 0 (.bool b5)).set (.inr (.inr rfl)) 1 (.slice a5 xs5.length c5')
      have hfin : RwIn W N B9 B12 B13 k s (.int .i64 (J + 64)) ((w12.setCell ⟨B13, 0, none⟩ (.bool b5)).setCell ⟨B13, 1, none⟩ (.slice a5 xs5.length c5')) := ⟨m + 1, by rw [HJ.out], hm1, eN, e12, e13, e9, kp⟩
      have HF := Lib.hid hfin
      clear a12 a13 a9 aN hv3 hv4 hv5 hb5 e12 e9 e13 eN kp hfin hr5 z0 z1
      go_wp2
      go_roundw
      case rel => exact HF.out
      case measure => simp [intOf]; omega
    · obtain rfl : m = nd k := by omega
      have hge : ¬ ((64 * nd k : Nat) : Int) < (k : Int) := by have := nd_lt (k := k) (m := nd k); omega
      clear h13 h9 hm
      generalize ((64 * nd k : Nat) : Int) = J at *
      go_wp2_with fail
      exact HKK.out _ _ _ _ _ _ _ _ _ _ _ _ _ _ _ _ _ _ _ _ _ _ _ _ hN h12 hkeep
end Go.Proofs.YtfeapgpjchjphaaGreat
