/-
  The reference's Pow, where the exponent is in range, for every value.
-/
import Derived.Test.YtedhjlkidcojhaaMSA
set_option linter.all false
namespace Go.Proofs.Ytedhjlkidcojhaa
open Go Go.Rx Go.RowKit Go.Big
attribute [local instance] noAv
theorem LongAt.other {W : World} {B B' : Nat} {z : Int} (h : LongAt W B z) (hne : B ≠ B') {p : Bool} {a : Option Addr} {n c : Nat} (h0 : W.cell? ⟨B', 0, none⟩ = some (.bool p)) (h1 : W.cell? ⟨B', 1, none⟩ = some (.slice a n c)) (u u' : Value) :
    LongAt ((W.setCell ⟨B', 0, none⟩ u).setCell ⟨B', 1, none⟩ u') B z := by
  obtain ⟨b', sa', n', sc', g0, g1, f0, f1, hB, hv⟩ := h
  refine ⟨b', sa', n', sc', ?_, ?_, ?_, ?_, by simpa using hB, hv.box2 h0 h1 _ _⟩
  · rw [World.cell?_setCell_other _ _ _ _ (fun e => hne (congrArg Addr.block e).symm), World.cell?_setCell_other _ _ _ _ (fun e => hne (congrArg Addr.block e).symm)]; exact g0
  · rw [World.cell?_setCell_other _ _ _ _ (fun e => hne (congrArg Addr.block e).symm), World.cell?_setCell_other _ _ _ _ (fun e => hne (congrArg Addr.block e).symm)]; exact g1
  · simpa using f0
  · simpa using f1
def in17 (z : Int) : Prop := - pw 17 < z ∧ z < pw 17
theorem in17_small {z : Int} (h : in17 z) : small z := by
  have := pw_mono (show 17 ≤ 64 by decide)
  unfold in17 at h; unfold small; omega
theorem in17_len {xs : List Int} {b : Bool} {z : Int} (g : good xs) (h : z = sgz b (val xs)) (hl : xs.length ≤ 17) : in17 z := by
  have h1 := val_bounds g
  have h2 := pw_mono hl
  unfold in17
  cases b <;> (first | rw [sgz_f] at h | rw [sgz_t] at h) <;> omega
theorem out17_len {xs : List Int} {b : Bool} {z : Int} (g : good xs) (n : norm xs) (h : z = sgz b (val xs)) (hl : 17 < xs.length) : pw 17 ≤ (z.natAbs : Int) := by
  have h1 := norm_low g n (by omega)
  have h2 := pw_mono (show 17 ≤ xs.length - 1 by omega)
  have h3 := (val_bounds g).1
  cases b <;> (first | rw [sgz_f] at h | rw [sgz_t] at h) <;> omega
theorem powr_out {x : Int} {k n : Nat} (h : pw 17 ≤ ((x ^ (k + 1)).natAbs : Int)) (hk : k + 1 ≤ n) : ¬ fit (x ^ n) := by
  intro hf
  have e1 : pw 17 = 57586096570152913699974892898380567793532123114264532903689671329431521032595044740083720782129802971518987656109067457577065805510327036019308994315074097345724416 := by decide
  rw [e1] at h
  have e2 : (x ^ (k + 1)).natAbs = x.natAbs ^ (k + 1) := Int.natAbs_pow x (k + 1)
  have e3 : (x ^ n).natAbs = x.natAbs ^ n := Int.natAbs_pow x n
  have hp : 1 ≤ x.natAbs := by
    rcases Nat.eq_zero_or_pos x.natAbs with h0 | h0
    · rw [e2, h0, Nat.zero_pow (by omega)] at h; omega
    · exact h0
  have h4 : x.natAbs ^ (k + 1) ≤ x.natAbs ^ n := Nat.pow_le_pow_right hp hk
  rw [← e2, ← e3] at h4
  unfold fit P511 at hf
  omega
def PowRel (wb : World) (x : Int) (B n : Nat) (i : Value) (wr : World) : Prop :=
  ∃ k : Nat, i = .int .i64 k ∧ k ≤ n ∧ Below wb.heap.size wb wr ∧ LongAt wr B x ∧ LongAt wr (B + 1) (x ^ k) ∧ in17 (x ^ k)
theorem pow_next {wb wr w3 : World} {x : Int} {B n k : Nat} {bb : Bool} {sa : Option Addr} {m sc : Nat} {y : Int} (hy : y = x ^ (k + 1)) (hk : k < n) (hB : wb.heap.size ≤ B) (bel : Below wb.heap.size wb wr) (h1 : LongAt wr B x) (h2 : LongAt wr (B + 1) (x ^ k)) (hb : Below wr.heap.size wr w3)
    (hv : LongV w3 (.agg #[.bool bb, .slice sa m sc]) y) (h17 : in17 y) : PowRel wb x B n (.int .i64 ((k : Int) + 1)) ((w3.setCell ⟨B + 1, 0, none⟩ (.bool bb)).setCell ⟨B + 1, 1, none⟩ (.slice sa m sc)) := by
  subst hy
  have q1 := h1.below hb
  have q2 := h2.below hb
  have q2' := q2
  obtain ⟨b', sa', n', sc', g0, g1, -⟩ := q2'
  exact ⟨k + 1, rfl, by omega, ((next0 bel hb).setCell (by show wb.heap.size ≤ B + 1; omega) _).setCell (by show wb.heap.size ≤ B + 1; omega) _, q1.other (by omega) g0 g1 _ _, q2.store hv, h17⟩
set_option maxHeartbeats 1600000 in
set_option maxRecDepth 100000 in
theorem refPow_in {w : World} {x : Int} {n : Nat} (hx : fit x) (hn : n ≤ 600) : Calls Try.prog 11 #[W x, .int .i64 n] w (Gets (fun _ r => r = resV (x ^ n) (fit (x ^ n))) w) := by
  obtain ⟨a0, a1, a2, a3, a4, a5, a6, a7, hg, rfl, he⟩ := words_of hx
  rw [he]
  have hs := small_fit hx
  have hin := fun W => in_c (w := W) a0 a1 a2 a3 a4 a5 a6 a7 hg
  generalize hv : wint [a0, a1, a2, a3, a4, a5, a6, a7] = x at *
  clear he hv hx
  obtain ⟨rr, ee, hr, hres⟩ := res_words (x ^ n)
  obtain ⟨z0, z1, z2, z3, z4, z5, z6, z7, -, -, hd⟩ := words_of hr
  have hout : in17 (x ^ n) → ∀ W u, LongV W u (x ^ n) → Calls Try.prog 44 #[u] W (Gets (fun _ r => r = .tuple #[.agg #[.int .u64 z0, .int .u64 z1, .int .u64 z2, .int .u64 z3, .int .u64 z4, .int .u64 z5, .int .u64 z6, .int .u64 z7], .int .i64 ee]) W) := fun h W u hu => by
    have := out_W hu (in17_small h)
    rw [hres, hd] at this
    exact this
  have hbig : ¬ fit (x ^ n) → Value.tuple #[.agg #[.int .u64 z0, .int .u64 z1, .int .u64 z2, .int .u64 z3, .int .u64 z4, .int .u64 z5, .int .u64 z6, .int .u64 z7], .int .i64 ee] = .tuple #[.agg #[.int .u64 0, .int .u64 0, .int .u64 0, .int .u64 0, .int .u64 0, .int .u64 0, .int .u64 0, .int .u64 0], .int .i64 6] := fun h => by
    rw [← hd, ← hres, ← W0_cells]
    unfold resV
    rw [if_neg h]; rfl
  rw [hres, hd]
  clear hres hd hr
  obtain ⟨k1, k2⟩ := heap2 w (.cells #[.int .u64 a0, .int .u64 a1, .int .u64 a2, .int .u64 a3, .int .u64 a4, .int .u64 a5, .int .u64 a6, .int .u64 a7] 24) (.cells #[.int .u64 0, .int .u64 0, .int .u64 0, .int .u64 0, .int .u64 0, .int .u64 0, .int .u64 0, .int .u64 0] 24)
  have bw : Below w.heap.size w ((w.alloc (.cells #[.int .u64 a0, .int .u64 a1, .int .u64 a2, .int .u64 a3, .int .u64 a4, .int .u64 a5, .int .u64 a6, .int .u64 a7] 24)).alloc (.cells #[.int .u64 0, .int .u64 0, .int .u64 0, .int .u64 0, .int .u64 0, .int .u64 0, .int .u64 0, .int .u64 0] 24)) := ((Below.refl _ _).alloc (Nat.le_refl _) _).alloc (by simp) _
  have hbs : ((w.alloc (.cells #[.int .u64 a0, .int .u64 a1, .int .u64 a2, .int .u64 a3, .int .u64 a4, .int .u64 a5, .int .u64 a6, .int .u64 a7] 24)).alloc (.cells #[.int .u64 0, .int .u64 0, .int .u64 0, .int .u64 0, .int .u64 0, .int .u64 0, .int .u64 0, .int .u64 0] 24)).heap.size = w.heap.size + 1 + 1 := by simp
  have hn0 : ¬ (n : Int) < 0 := by omega
  have hn6 : ¬ 600 < (n : Int) := by omega
  go_enter Try.func11, Try.ntmps11
  go_wp2_with fail
  generalize ((w.alloc (.cells #[.int .u64 a0, .int .u64 a1, .int .u64 a2, .int .u64 a3, .int .u64 a4, .int .u64 a5, .int .u64 a6, .int .u64 a7] 24)).alloc (.cells #[.int .u64 0, .int .u64 0, .int .u64 0, .int .u64 0, .int .u64 0, .int .u64 0, .int .u64 0, .int .u64 0] 24)) = wb at *
  refine (hin _).mono ?_
  rintro e w1 ⟨d, rfl, hd, hb⟩
  have hd' := hd
  obtain ⟨b1, s1, zs1, rfl, hr1, -⟩ := hd'
  obtain ⟨sa1, sc1, rfl, _⟩ := hr1.len
  go_wp2_with fail
  refine (long1_0 _ (by omega) (by omega)).mono ?_
  rintro e w2 ⟨d2, rfl, hd2, hb2⟩
  have hd2' := hd2
  obtain ⟨b2, s2, zs2, rfl, hr2, -⟩ := hd2'
  obtain ⟨sa2, sc2, rfl, _⟩ := hr2.len
  have x2 := next0 (next0 (Below.refl wb.heap.size wb) hb) hb2
  have hrel : PowRel wb x w2.heap.size n (.int .i64 0) ((w2.alloc (.cells #[.bool b1, .slice sa1 zs1.length sc1] 75)).alloc (.cells #[.bool b2, .slice sa2 zs2.length sc2] 75)) := by
    have hdd := hd.below hb2
    have n1 := LongAt.new hdd 75
    have e1 : (w2.alloc (.cells #[.bool b1, .slice sa1 zs1.length sc1] 75)).heap.size = w2.heap.size + 1 := by simp
    have B1 := (Below.refl w2.heap.size w2).alloc (Nat.le_refl _) (.cells #[.bool b1, .slice sa1 zs1.length sc1] 75)
    have n2 := LongAt.new (hd2.below B1) 75
    have B2 := (Below.refl _ (w2.alloc (.cells #[.bool b1, .slice sa1 zs1.length sc1] 75))).alloc (Nat.le_refl _) (.cells #[.bool b2, .slice sa2 zs2.length sc2] 75)
    rw [e1] at n2
    refine ⟨0, rfl, Nat.zero_le _, (x2.alloc x2.size _).alloc (by have := x2.size; simp; omega) _, n1.below B2, by rw [Int.pow_zero]; exact n2, ?_⟩
    rw [Int.pow_zero]
    have : pw 17 = 57586096570152913699974892898380567793532123114264532903689671329431521032595044740083720782129802971518987656109067457577065805510327036019308994315074097345724416 := by decide
    unfold in17; omega
  have hB := x2.size
  clear hin hd hd2 hr1 hr2 hb hb2 x2
  go_wp2
  generalize (w2.alloc (.cells #[.bool b1, .slice sa1 zs1.length sc1] 75)).alloc (.cells #[.bool b2, .slice sa2 zs2.length sc2] 75) = w3 at hrel
  generalize w2.heap.size = B at *
  go_loopw [8] (PowRel wb x B n) (fun i _ => n - (intOf i).toNat)
  case atStart => exact hrel
  case round =>
    obtain ⟨k, rfl, hk, bel, hat1, hat2, h17⟩ := hrel
    have hat1' := hat1
    have hat2' := hat2
    obtain ⟨p1, q1, m1, c1, g10, g11, f10, f11, hl1, hv1⟩ := hat1'
    obtain ⟨p2, q2, m2, c2, g20, g21, f20, f21, hl2, hv2⟩ := hat2'
    obtain ⟨y0, y1, y2, y3, y4, y5, y6, y7, fz⟩ := eight_zero ((bel.block (w.heap.size + 1) (by omega)).trans k2)
    by_cases hkn : k < n
    · go_wp2_with fail
      refine (times_c hv2 hv1 (in17_small h17) hs).mono ?_
      rintro e w4 ⟨y, rfl, hy, hb4⟩
      have hy' := hy
      obtain ⟨b4, s4, zs4, rfl, hr4, gz4, nz4, -, e4⟩ := hy'
      obtain ⟨sa4, sc4, rfl, _⟩ := hr4.len
      have h20 := (hb4.cell (p := ⟨B + 1, 0, none⟩) hl2).trans g20
      have h21 := (hb4.cell (p := ⟨B + 1, 1, none⟩) hl2).trans g21
      have j20 := (hb4.frozen (p := ⟨B + 1, 0, none⟩) hl2).trans f20
      have j21 := (hb4.frozen (p := ⟨B + 1, 1, none⟩) hl2).trans f21
      have l4 : B + 1 < w4.heap.size := Nat.lt_of_lt_of_le hl2 hb4.size
      have e5 : x ^ k * x = x ^ (k + 1) := (Int.pow_succ x k).symm
      by_cases hlen : 17 < zs4.length
      · have hbg' := (hbig (powr_out (k := k) (by rw [← e5]; exact out17_len gz4 nz4 e4 hlen) hkn)).symm
        have hbg := Lib.hid hbg'
        clear hbg'
        have bel4 : Below wb.heap.size wb ((w4.setCell ⟨B + 1, 0, none⟩ (.bool b4)).setCell ⟨B + 1, 1, none⟩ (.slice sa4 zs4.length sc4)) := ((next0 bel hb4).setCell (by show wb.heap.size ≤ B + 1; omega) _).setCell (by show wb.heap.size ≤ B + 1; omega) _
        obtain ⟨y0, y1, y2, y3, y4, y5, y6, y7, fz⟩ := eight_zero ((bel4.block (w.heap.size + 1) (by omega)).trans k2)
        clear hout hat1 hat2 hv1 hv2 hr4 hy e4 hbig
        have hW4 : Below w.heap.size w ((w4.setCell ⟨B + 1, 0, none⟩ (.bool b4)).setCell ⟨B + 1, 1, none⟩ (.slice sa4 zs4.length sc4)) := bw.trans (bel4.mono (by omega))
        have hsz : w.heap.size + 1 < ((w4.setCell ⟨B + 1, 0, none⟩ (.bool b4)).setCell ⟨B + 1, 1, none⟩ (.slice sa4 zs4.length sc4)).heap.size := by have := bel4.size; omega
        go_wp2
        generalize (w4.setCell ⟨B + 1, 0, none⟩ (.bool b4)).setCell ⟨B + 1, 1, none⟩ (.slice sa4 zs4.length sc4) = w5 at *
        exact bodyPost_ret (v := .tuple #[.agg #[.int .u64 0, .int .u64 0, .int .u64 0, .int .u64 0, .int .u64 0, .int .u64 0, .int .u64 0, .int .u64 0], .int .i64 6]) (by simp [results, Try.results11, go_sem, y0, y1, y2, y3, y4, y5, y6, y7]) rfl ⟨_, rfl, hbg.out, below_set8 hW4 (by omega) _ _ _ _ _ _ _ _⟩
      · have hrel4 := pow_next e5 hkn hB bel hat1 hat2 hb4 hy (in17_len gz4 e4 (by omega))
        clear hout hat1 hat2 hv1 hv2 hr4 hy e4 hbig y0 y1 y2 y3 y4 y5 y6 y7 fz
        go_wp2
        go_roundw
        case rel => exact hrel4
        case measure => simp [intOf]; omega
    · obtain rfl : k = n := by omega
      clear hbig
      go_wp2_with fail
      refine (hout h17 _ _ hv2).mono ?_
      rintro e w4 ⟨r4, rfl, rfl, hb4⟩
      have bel4 := next0 bel hb4
      obtain ⟨y0, y1, y2, y3, y4, y5, y6, y7, fz⟩ := eight_zero ((bel4.block (w.heap.size + 1) (by omega)).trans k2)
      clear hout hat1 hat2 hv1 hv2
      have hW4 : Below w.heap.size w w4 := bw.trans (bel4.mono (by omega))
      have hsz : w.heap.size + 1 < w4.heap.size := by have := bel4.size; omega
      go_wp2
      exact bodyPost_ret (v := .tuple #[.agg #[.int .u64 z0, .int .u64 z1, .int .u64 z2, .int .u64 z3, .int .u64 z4, .int .u64 z5, .int .u64 z6, .int .u64 z7], .int .i64 ee]) (by simp [results, Try.results11, go_sem, y0, y1, y2, y3, y4, y5, y6, y7]) rfl ⟨_, rfl, rfl, below_set8 hW4 (by omega) _ _ _ _ _ _ _ _⟩
end Go.Proofs.Ytedhjlkidcojhaa
