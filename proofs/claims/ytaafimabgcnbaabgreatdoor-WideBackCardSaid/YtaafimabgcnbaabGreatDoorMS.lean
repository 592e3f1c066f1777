/-
  Products of magnitudes: one addition into a column.
  Products of magnitudes: the loop that hands a carry on.
  Products of two words.
  Products of magnitudes: the loop over the words of the second one.
  Products of magnitudes: the loop over the words of the first one.
  Products of magnitudes, whole.
  Products, for every value: of magnitudes, of signed numbers, of wide integers.
  Mul of package wide, for every two wide integers.
  Neg and Abs of package wide, for every wide integer.
-/
import Derived.Test.YtaafimabgcnbaabGreatDoorMR
import Derived.Test.YtaafimabgcnbaabGreatDoorMI
import Derived.Test.YtaafimabgcnbaabGreatDoorMLFa
import Derived.Shelf.Bits.Mul64
import Derived.Laws.CopyOwn
import Derived.Shelf.Abstract
set_option linter.all false
namespace Go.Proofs.YtaafimabgcnbaabGreatDoor
open Go Go.Rx Go.RowKit Go.Big
attribute [local instance] noAv
/-- The columns hold these words; below block C all is as it was. -/
structure Cols (C : Nat) (cs : List Int) (w w' : World) : Prop where
  bel : Below C w w'
  cells : w'.heap[C]? = some (.cells (cs.map (Value.int .u64)).toArray 142)
theorem wval_set : ∀ (l : List Int) (i : Nat) (x : Int), i < l.length → wval (l.set i x) = wval l + (x - l.getD i 0) * pw (2 * i)
  | [], i, x, h => absurd h (Nat.not_lt_zero _)
  | a :: l, 0, x, _ => by
    show x + _ * wval l = a + _ * wval l + (x - a) * pw 0
    rw [show pw 0 = 1 from rfl]; omega
  | a :: l, i + 1, x, h => by
    have ih := wval_set l i x (by simpa using h)
    show a + _ * wval (l.set i x) = a + _ * wval l + (x - l.getD i 0) * pw (2 * (i + 1))
    rw [ih, show 2 * (i + 1) = 2 + 2 * i by omega, pw_add, show pw 2 = 18446744073709551616 by decide, Int.mul_add, ← Int.mul_assoc, ← Int.mul_assoc]
    generalize 18446744073709551616 * wval l = q
    rw [Int.mul_comm 18446744073709551616 (x - l.getD i 0)]
    omega
theorem wgood_set {l : List Int} (h : wgood l) (i : Nat) {x : Int} (hx : 0 ≤ x ∧ x < 18446744073709551616) : wgood (l.set i x) := by
  intro y hy
  rcases List.mem_or_eq_of_mem_set hy with h1 | h1
  · exact h y h1
  · rw [h1]; exact hx
theorem wgood_get {l : List Int} (h : wgood l) (i : Nat) : 0 ≤ l.getD i 0 ∧ l.getD i 0 < 18446744073709551616 := by
  by_cases hi : i < l.length
  · exact h _ (by simp [List.getD, hi])
  · simp [List.getD, hi]
theorem col_words {l : List Int} {i : Nat} (hi : i < l.length) : (l.map (Value.int .u64)).toArray[i]? = some (.int .u64 (l.getD i 0)) := by
  simp [List.getD, hi]
set_option maxHeartbeats 400000 in
set_option maxRecDepth 100000 in
theorem gather_c {w : World} {C : Nat} {cs : List Int} (hc : w.heap[C]? = some (.cells (cs.map (Value.int .u64)).toArray 142)) (hl : cs.length = 16) (hg : wgood cs) (i : Nat) (hi : i < 16) (p : Int) (hp : 0 ≤ p ∧ p < 18446744073709551616) :
    Calls Tryz.prog 108 #[.int .i64 i, .int .u64 p, .pointer (some ⟨C, 0, none⟩)] w (fun e w' => e = .returned (.int .u64 ((cs.getD i 0 + p) / 18446744073709551616)) ∧ Cols C (cs.set i ((cs.getD i 0 + p) % 18446744073709551616)) w w') := by
  have h0 : w.cell? ⟨C, i, none⟩ = some (.int .u64 (cs.getD i 0)) := by rw [cellOf hc]; exact col_words (by omega)
  have hf : w.frozen? ⟨C, i, none⟩ = false := frozenOf hc
  have hx := wgood_get hg i
  have hfin : Cols C (cs.set i ((cs.getD i 0 + p) % 18446744073709551616)) w (w.setCell ⟨C, i, none⟩ (.int .u64 ((cs.getD i 0 + p) % 18446744073709551616))) := by
    refine ⟨(Below.refl C w).setCell (p := ⟨C, i, none⟩) (Nat.le_refl C) _, ?_⟩
    rw [heap_setCell_same w C i _ 142 _ hc]
    simp [List.map_set]
  generalize cs.getD i 0 = x at *
  have hadd := fun w => run_add x p 0 hx.1 hp.1 (by decide) (by decide) w
  simp only [Int.add_zero] at hadd
  generalize (x + p) % 18446744073709551616 = lo at *
  generalize (x + p) / 18446744073709551616 = hi' at *
  clear hc
  go_enter Tryz.func108, Tryz.ntmps108
  go_wp2
  go_ret
  exact ⟨rfl, hfin⟩
end Go.Proofs.YtaafimabgcnbaabGreatDoor
namespace Go.Proofs.YtaafimabgcnbaabGreatDoor
open Go Go.Rx Go.RowKit Go.Big
attribute [local instance] noAv
def findB (n : Nat) : Code → Option Code
  | .block k c => bif Nat.beq k n then some c else findB n c
  | .seq a b => match findB n a with | some c => some c | none => findB n b
  | .loop c => findB n c
  | .scope c => findB n c
  | .cond _ a b => match findB n a with | some c => some c | none => findB n b
  | _ => none
/-- The columns hold T. -/
def ColsV (C : Nat) (T : Int) (w W : World) : Prop := ∃ cs, cs.length = 16 ∧ wgood cs ∧ wval cs = T ∧ Cols C cs w W
theorem carry_step (V x q p : Int) : V + ((x + q) % 18446744073709551616 - x) * p + (x + q) / 18446744073709551616 * (18446744073709551616 * p) = V + q * p := by
  have h := Int.emod_add_mul_ediv (x + q) 18446744073709551616
  generalize (x + q) % 18446744073709551616 = r at *
  generalize (x + q) / 18446744073709551616 = d at *
  have e : r - x = q - 18446744073709551616 * d := by omega
  rw [e, Int.sub_mul, ← Int.mul_assoc d, Int.mul_comm d]
  omega
theorem cols_step {C : Nat} {T : Int} {w W W1 : World} {cs : List Int} {i : Nat} {q : Int} (hi : i < 16) (hl : cs.length = 16) (hg : wgood cs) (hv : wval cs + q * pw (2 * i) = T) (hC : Cols C cs w W) (h1 : Cols C (cs.set i ((cs.getD i 0 + q) % 18446744073709551616)) W W1) :
    (cs.set i ((cs.getD i 0 + q) % 18446744073709551616)).length = 16 ∧ wgood (cs.set i ((cs.getD i 0 + q) % 18446744073709551616)) ∧ wval (cs.set i ((cs.getD i 0 + q) % 18446744073709551616)) + (cs.getD i 0 + q) / 18446744073709551616 * pw (2 * (i + 1)) = T ∧ Cols C (cs.set i ((cs.getD i 0 + q) % 18446744073709551616)) w W1 := by
  refine ⟨by simpa using hl, wgood_set hg i (by omega), ?_, ⟨hC.bel.trans h1.bel, h1.cells⟩⟩
  rw [wval_set _ _ _ (by omega), show 2 * (i + 1) = 2 + 2 * i by omega, pw_add, show pw 2 = 18446744073709551616 by decide, carry_step]
  exact hv
theorem carry_end {T q : Int} {cs : List Int} (hT : T < pw 32) (hg : wgood cs) (hl : cs.length = 16) (hq : 0 ≤ q) (hv : wval cs + q * pw (2 * 16) = T) : wval cs = T := by
  have h0 := (wval_lt hg).1
  have hp := pw_pos 32
  have : q = 0 := by
    rcases Int.lt_or_le 0 q with h | h
    · have := Int.mul_le_mul_of_nonneg_right (show 1 ≤ q by omega) (Int.le_of_lt hp)
      rw [show 2 * 16 = 32 from rfl] at hv
      omega
    · omega
  subst this
  omega
noncomputable def carryL : Code := ((Tryz.f93.body.bind (findB 4)).getD .skip)
set_option maxHeartbeats 4000000 in
set_option maxRecDepth 100000 in
theorem carry_loop {C : Nat} {T : Int} (hT : T < pw 32) {w0 w : World} {cs0 : List Int} {q0 : Int} {i0 : Nat} (hi0 : i0 ≤ 16) (hq0 : 0 ≤ q0) (hq1 : q0 < 18446744073709551616) (hl0 : cs0.length = 16) (hg0 : wgood cs0) (hv0 : wval cs0 + q0 * pw (2 * i0) = T) (hC0 : Cols C cs0 w0 w)
    (c0 c1 c2 c3 c4 c5 c6 c8 c9 c10 c11 c12 c13 c16 c17 c18 c19 c20 c21 c22 c23 c24 c25 c26 c27 c28 c29 c30 c31 c32 c33 c34 c35 c36 c37 c38 c39 c40 c41 c42 c43 c44 c45 c46 c47 c48 c49 c50 c51 c52 c53 c54 c65 c66 c67 c68 c69 c70 c71 c72 c73 c74 c75 c76 c77 c78 c79 c80 u55 u56 u57 u58 u59 u60 u61 u62 u63 u64 : Value) (Q : Exit → Act → World → Prop)
    (h3 : ∀ (u14 u15 u55 u56 u57 u58 u59 u60 u61 u62 u63 u64 : Value) (W : World), ColsV C T w0 W → Q (.exit 3) ⟨(List.toArray (c0 :: c1 :: c2 :: c3 :: c4 :: c5 :: c6 :: (.func (Fn.func 108) #[] #[.pointer (some ⟨C, 0, none⟩)]) :: c8 :: c9 :: c10 :: c11 :: c12 :: c13 :: u14 :: u15 :: c16 :: c17 :: c18 :: c19 :: c20 :: c21 :: c22 :: c23 :: c24 :: c25 :: c26 :: c27 :: c28 :: c29 :: c30 :: c31 :: c32 :: c33 :: c34 :: c35 :: c36 :: c37 :: c38 :: c39 :: c40 :: c41 :: c42 :: c43 :: c44 :: c45 :: c46 :: c47 :: c48 :: c49 :: c50 :: c51 :: c52 :: c53 :: c54 :: u55 :: u56 :: u57 :: u58 :: u59 :: u60 :: u61 :: u62 :: u63 :: u64 :: c65 :: c66 :: c67 :: c68 :: c69 :: c70 :: c71 :: c72 :: c73 :: c74 :: c75 :: c76 :: c77 :: c78 :: c79 :: c80 :: [])), []⟩ W)
    (h4 : ∀ (u14 u15 u55 u56 u57 u58 u59 u60 u61 u62 u63 u64 : Value) (W : World), ColsV C T w0 W → Q (.exit 4) ⟨(List.toArray (c0 :: c1 :: c2 :: c3 :: c4 :: c5 :: c6 :: (.func (Fn.func 108) #[] #[.pointer (some ⟨C, 0, none⟩)]) :: c8 :: c9 :: c10 :: c11 :: c12 :: c13 :: u14 :: u15 :: c16 :: c17 :: c18 :: c19 :: c20 :: c21 :: c22 :: c23 :: c24 :: c25 :: c26 :: c27 :: c28 :: c29 :: c30 :: c31 :: c32 :: c33 :: c34 :: c35 :: c36 :: c37 :: c38 :: c39 :: c40 :: c41 :: c42 :: c43 :: c44 :: c45 :: c46 :: c47 :: c48 :: c49 :: c50 :: c51 :: c52 :: c53 :: c54 :: u55 :: u56 :: u57 :: u58 :: u59 :: u60 :: u61 :: u62 :: u63 :: u64 :: c65 :: c66 :: c67 :: c68 :: c69 :: c70 :: c71 :: c72 :: c73 :: c74 :: c75 :: c76 :: c77 :: c78 :: c79 :: c80 :: [])), []⟩ W) :
    Code.wp Tryz.prog carryL Q ⟨(List.toArray (c0 :: c1 :: c2 :: c3 :: c4 :: c5 :: c6 :: (.func (Fn.func 108) #[] #[.pointer (some ⟨C, 0, none⟩)]) :: c8 :: c9 :: c10 :: c11 :: c12 :: c13 :: (.int .u64 q0) :: (.int .i64 (i0 : Nat)) :: c16 :: c17 :: c18 :: c19 :: c20 :: c21 :: c22 :: c23 :: c24 :: c25 :: c26 :: c27 :: c28 :: c29 :: c30 :: c31 :: c32 :: c33 :: c34 :: c35 :: c36 :: c37 :: c38 :: c39 :: c40 :: c41 :: c42 :: c43 :: c44 :: c45 :: c46 :: c47 :: c48 :: c49 :: c50 :: c51 :: c52 :: c53 :: c54 :: u55 :: u56 :: u57 :: u58 :: u59 :: u60 :: u61 :: u62 :: u63 :: u64 :: c65 :: c66 :: c67 :: c68 :: c69 :: c70 :: c71 :: c72 :: c73 :: c74 :: c75 :: c76 :: c77 :: c78 :: c79 :: c80 :: [])), []⟩ w := by
  conv => arg 2; whnf
  go_loopw [14, 15] (fun c a W => ∃ (q : Int) (i : Nat) (cs : List Int), c = .int .u64 q ∧ a = .int .i64 i ∧ i ≤ 16 ∧ 0 ≤ q ∧ q < 18446744073709551616 ∧ cs.length = 16 ∧ wgood cs ∧ wval cs + q * pw (2 * i) = T ∧ Cols C cs w0 W) (fun _ a _ => 16 - (intOf a).toNat)
  case atStart => exact ⟨q0, i0, cs0, rfl, rfl, hi0, hq0, hq1, hl0, hg0, hv0, hC0⟩
  case round =>
    obtain ⟨q, i, cs, rfl, rfl, hi, hq0, hq1, hl, hg, hv, hC⟩ := hrel
    by_cases h16 : i < 16
    · have G := gather_c hC.cells hl hg i h16 q ⟨hq0, hq1⟩
      have hx := wgood_get hg i
      have hstep := fun W1 h1 => cols_step (W1 := W1) h16 hl hg hv hC h1
      have hr0 : 0 ≤ (cs.getD i 0 + q) / 18446744073709551616 ∧ (cs.getD i 0 + q) / 18446744073709551616 < 18446744073709551616 := by omega
      generalize (cs.getD i 0 + q) / 18446744073709551616 = q' at *
      generalize cs.set i ((cs.getD i 0 + q) % 18446744073709551616) = ds at *
      clear hx hg hv hl hC hv0 hC0 hg0 hl0
      by_cases hz : q' = 0
      · subst hz
        go_wp2_with fail
        with_reducible refine G.mono ?_
        rintro e W1 ⟨rfl, hC1⟩
        obtain ⟨e1, e2, e3, e4⟩ := hstep _ hC1
        have hfin : ColsV C T w0 W1 := ⟨ds, e1, e2, by rw [← e3]; omega, e4⟩
        clear hstep G hC1 e1 e2 e3 e4
        go_wp2
        exact h3 _ _ _ _ _ _ _ _ _ _ _ _ _ hfin
      · have hz' : (q' == 0) = false := by simpa using hz
        go_wp2_with fail
        with_reducible refine G.mono ?_
        rintro e W1 ⟨rfl, hC1⟩
        obtain ⟨e1, e2, e3, e4⟩ := hstep _ hC1
        have hfin : ∃ (q : Int) (j : Nat) (cs : List Int), Value.int .u64 q' = .int .u64 q ∧ Value.int .i64 ((i + 1 : Nat) : Int) = .int .i64 j ∧ j ≤ 16 ∧ 0 ≤ q ∧ q < 18446744073709551616 ∧ cs.length = 16 ∧ wgood cs ∧ wval cs + q * pw (2 * j) = T ∧ Cols C cs w0 W1 := ⟨q', i + 1, ds, rfl, rfl, h16, hr0.1, hr0.2, e1, e2, e3, e4⟩
        clear hstep G hC1 e1 e2 e3 e4
        go_wp2
        go_roundw
        case rel => exact hfin
        case measure => simp [intOf]; omega
    · obtain rfl : i = 16 := by omega
      have hfin : ColsV C T w0 wr := ⟨cs, hl, hg, carry_end hT hg hl hq0 hv, hC⟩
      clear hg hv hl hC hv0 hC0 hg0 hl0
      go_wp2
      exact hfin
end Go.Proofs.YtaafimabgcnbaabGreatDoor
namespace Go.Proofs.YtaafimabgcnbaabGreatDoor
open Go Go.Rx Go.RowKit Go.Big
set_option maxHeartbeats 1000000 in
theorem mul64_n (x y : Nat) (hx : x < 18446744073709551616) (hy : y < 18446744073709551616) (w : World) :
    Calls Tryz.prog 80 #[.int .u64 x, .int .u64 y] w fun e w' => e = .returned (.tuple #[.int .u64 ((x * y / 18446744073709551616 : Nat) : Int), .int .u64 ((x * y % 18446744073709551616 : Nat) : Int)]) ∧ w' = w := by
  obtain ⟨bd, bt, bw, hhi⟩ := Lib.mul64_hi x y hx hy
  have ba := Lib.half_mul_le (a := x / 4294967296) (b := y / 4294967296) (by omega) (by omega)
  have bb := Lib.half_mul_le (a := x / 4294967296) (b := y % 4294967296) (by omega) (by omega)
  have bc := Lib.half_mul_le (a := x % 4294967296) (b := y / 4294967296) (by omega) (by omega)
  have ba' : x / 4294967296 * (y / 4294967296) < 18446744073709551616 := by omega
  have bb' : x / 4294967296 * (y % 4294967296) < 18446744073709551616 := by omega
  have bc' : x % 4294967296 * (y / 4294967296) < 18446744073709551616 := by omega
  have bh1 : x / 4294967296 * (y / 4294967296) + (x / 4294967296 * (y % 4294967296) + x % 4294967296 * (y % 4294967296) / 4294967296) / 4294967296 < 18446744073709551616 := by omega
  have bh : x / 4294967296 * (y / 4294967296) + (x / 4294967296 * (y % 4294967296) + x % 4294967296 * (y % 4294967296) / 4294967296) / 4294967296 + ((x / 4294967296 * (y % 4294967296) + x % 4294967296 * (y % 4294967296) / 4294967296) % 4294967296 + x % 4294967296 * (y / 4294967296)) / 4294967296 < 18446744073709551616 := by omega
  go_enter Tryz.func80, Tryz.ntmps80
  go_wp2
  simp only [Mul64.maskN x hx, Mul64.maskN y hy, Mul64.divN, Mul64.mulN, Mul64.addN, Mul64.wrapN _ bd, Mul64.wrapN _ bb', Mul64.wrapN _ bt, Mul64.maskN _ bt, Mul64.wrapN _ bc', Mul64.wrapN _ bw, Mul64.wrapN _ ba', Mul64.wrapN _ bh1, Mul64.wrapN _ bh, Mul64.wrapM (x * y)]
  rw [hhi]
  go_ret2
  exact ⟨rfl, rfl⟩
/-- The product of two words, with integers. -/
theorem mul64_c {x y : Int} (hx : 0 ≤ x ∧ x < 18446744073709551616) (hy : 0 ≤ y ∧ y < 18446744073709551616) (w : World) :
    Calls Tryz.prog 80 #[.int .u64 x, .int .u64 y] w fun e w' => e = .returned (.tuple #[.int .u64 (x * y / 18446744073709551616), .int .u64 (x * y % 18446744073709551616)]) ∧ w' = w := by
  obtain ⟨a, rfl⟩ := Int.eq_ofNat_of_zero_le hx.1
  obtain ⟨b, rfl⟩ := Int.eq_ofNat_of_zero_le hy.1
  have := mul64_n a b (by omega) (by omega) w
  rw [Int.natCast_ediv, Int.natCast_emod, Int.natCast_mul] at this
  exact this
end Go.Proofs.YtaafimabgcnbaabGreatDoor
namespace Go.Proofs.YtaafimabgcnbaabGreatDoor
open Go Go.Rx Go.RowKit Go.Big
attribute [local instance] noAv
theorem wval_take_succ : ∀ (l : List Int) (j : Nat), j < l.length → wval (l.take (j + 1)) = wval (l.take j) + l.getD j 0 * pw (2 * j)
  | [], j, h => absurd h (Nat.not_lt_zero _)
  | a :: l, 0, _ => by
    show a + _ * wval (l.take 0) = 0 + a * pw 0
    rw [show pw 0 = 1 from rfl, List.take_zero]; show a + _ * 0 = _; omega
  | a :: l, j + 1, h => by
    have ih := wval_take_succ l j (by simpa using h)
    show a + _ * wval (l.take (j + 1)) = a + _ * wval (l.take j) + l.getD j 0 * pw (2 * (j + 1))
    rw [ih, show 2 * (j + 1) = 2 + 2 * j by omega, pw_add, show pw 2 = 18446744073709551616 by decide, Int.mul_add, ← Int.mul_assoc, ← Int.mul_assoc, Int.mul_comm 18446744073709551616 (l.getD j 0)]
    omega
theorem word_prod {a b : Int} (ha : 0 ≤ a ∧ a < 18446744073709551616) (hb : 0 ≤ b ∧ b < 18446744073709551616) : 0 ≤ a * b / 18446744073709551616 ∧ a * b / 18446744073709551616 ≤ 18446744073709551614 := by
  have h1 := Int.mul_nonneg ha.1 hb.1
  have h2 : a * b ≤ 18446744073709551615 * 18446744073709551615 := Int.mul_le_mul (by omega) (by omega) hb.1 (by decide)
  omega
theorem prod_step (V ab p : Int) : V + ab % 18446744073709551616 * p + ab / 18446744073709551616 * (18446744073709551616 * p) = V + ab * p := by
  have h := Int.emod_add_mul_ediv ab 18446744073709551616
  generalize ab % 18446744073709551616 = r at *
  generalize ab / 18446744073709551616 = d at *
  rw [← h, Int.add_mul, ← Int.mul_assoc d, Int.mul_comm d]
  omega
/-- One column more: what the first addition leaves to be handed on. -/
theorem col_start {C : Nat} {V a b : Int} {w W W1 : World} {cs : List Int} {s : Nat} (hs : s < 16) (ha : 0 ≤ a ∧ a < 18446744073709551616) (hb : 0 ≤ b ∧ b < 18446744073709551616) (hl : cs.length = 16) (hg : wgood cs) (hv : wval cs = V) (hC : Cols C cs w W)
    (h1 : Cols C (cs.set s ((cs.getD s 0 + a * b % 18446744073709551616) % 18446744073709551616)) W W1) :
    ∃ ds, ds.length = 16 ∧ wgood ds ∧ wval ds + (a * b / 18446744073709551616 + (cs.getD s 0 + a * b % 18446744073709551616) / 18446744073709551616) * pw (2 * (s + 1)) = V + a * b * pw (2 * s) ∧ Cols C ds w W1 := by
  obtain ⟨e1, e2, e3, e4⟩ := cols_step (T := V + a * b % 18446744073709551616 * pw (2 * s)) (q := a * b % 18446744073709551616) hs hl hg (by rw [hv]) hC h1
  refine ⟨_, e1, e2, ?_, e4⟩
  have e5 := prod_step V (a * b) (pw (2 * s))
  rw [show 2 * (s + 1) = 2 + 2 * s by omega, pw_add, show pw 2 = 18446744073709551616 by decide] at e3 ⊢
  rw [Int.add_mul]
  omega
noncomputable def middleL : Code := ((Tryz.f93.body.bind (findB 2)).getD .skip)
set_option maxHeartbeats 4000000 in
set_option maxRecDepth 100000 in
theorem middle_loop {C N i M : Nat} {V0 a : Int} {ns : List Int} (hM : M ≤ 8) (hi : i < 8) (hns : wgood ns) (hnl : ns.length = 8) (ha : 0 ≤ a ∧ a < 18446744073709551616) (hT : ∀ j, j ≤ M → V0 + a * pw (2 * i) * wval (ns.take j) < pw 32)
    {w0 w : World} (hN : N < C) (hn : ∀ j, j < 8 → w0.cell? ⟨N, j, none⟩ = some (.int .u64 (ns.getD j 0))) (hC0 : ColsV C V0 w0 w)
    (c0 c1 c2 c3 c4 c5 c6 c16 c17 c18 c19 c20 c21 c22 c23 c24 c25 c26 c27 c28 c29 c66 c67 c68 c69 c70 c71 c72 c73 c74 c75 c76 c77 c78 c79 c80 u10 u11 u12 u13 u14 u15 u33 u34 u35 u36 u37 u38 u39 u40 u41 u42 u43 u44 u45 u46 u47 u48 u49 u50 u51 u52 u53 u54 u55 u56 u57 u58 u59 u60 u61 u62 u63 u64 u65 : Value) (Q : Exit → Act → World → Prop)
    (h2 : ∀ (u10 u11 u12 u13 u14 u15 u33 u34 u35 u36 u37 u38 u39 u40 u41 u42 u43 u44 u45 u46 u47 u48 u49 u50 u51 u52 u53 u54 u55 u56 u57 u58 u59 u60 u61 u62 u63 u64 u65 : Value) (W : World), ColsV C (V0 + a * pw (2 * i) * wval (ns.take M)) w0 W → Q (.exit 2) ⟨(List.toArray (c0 :: c1 :: c2 :: c3 :: c4 :: c5 :: c6 :: (.func (Fn.func 108) #[] #[.pointer (some ⟨C, 0, none⟩)]) :: (.int .i64 (i : Nat)) :: (.int .u64 a) :: u10 :: u11 :: u12 :: u13 :: u14 :: u15 :: c16 :: c17 :: c18 :: c19 :: c20 :: c21 :: c22 :: c23 :: c24 :: c25 :: c26 :: c27 :: c28 :: c29 :: (.slice (some ⟨N, 0, none⟩) M 8) :: (.int .i64 (M : Nat)) :: (.int .i64 (M : Nat)) :: u33 :: u34 :: u35 :: u36 :: u37 :: u38 :: u39 :: u40 :: u41 :: u42 :: u43 :: u44 :: u45 :: u46 :: u47 :: u48 :: u49 :: u50 :: u51 :: u52 :: u53 :: u54 :: u55 :: u56 :: u57 :: u58 :: u59 :: u60 :: u61 :: u62 :: u63 :: u64 :: u65 :: c66 :: c67 :: c68 :: c69 :: c70 :: c71 :: c72 :: c73 :: c74 :: c75 :: c76 :: c77 :: c78 :: c79 :: c80 :: [])), []⟩ W) :
    Code.wp Tryz.prog middleL Q ⟨(List.toArray (c0 :: c1 :: c2 :: c3 :: c4 :: c5 :: c6 :: (.func (Fn.func 108) #[] #[.pointer (some ⟨C, 0, none⟩)]) :: (.int .i64 (i : Nat)) :: (.int .u64 a) :: u10 :: u11 :: u12 :: u13 :: u14 :: u15 :: c16 :: c17 :: c18 :: c19 :: c20 :: c21 :: c22 :: c23 :: c24 :: c25 :: c26 :: c27 :: c28 :: c29 :: (.slice (some ⟨N, 0, none⟩) M 8) :: (.int .i64 (M : Nat)) :: (.int .i64 0) :: u33 :: u34 :: u35 :: u36 :: u37 :: u38 :: u39 :: u40 :: u41 :: u42 :: u43 :: u44 :: u45 :: u46 :: u47 :: u48 :: u49 :: u50 :: u51 :: u52 :: u53 :: u54 :: u55 :: u56 :: u57 :: u58 :: u59 :: u60 :: u61 :: u62 :: u63 :: u64 :: u65 :: c66 :: c67 :: c68 :: c69 :: c70 :: c71 :: c72 :: c73 :: c74 :: c75 :: c76 :: c77 :: c78 :: c79 :: c80 :: [])), []⟩ w := by
  conv => arg 2; whnf
  go_loopw [32] (fun t W => ∃ j : Nat, t = .int .i64 j ∧ j ≤ M ∧ ColsV C (V0 + a * pw (2 * i) * wval (ns.take j)) w0 W) (fun t _ => M - (intOf t).toNat)
  case atStart => exact ⟨0, rfl, Nat.zero_le _, by rw [List.take_zero, show wval [] = 0 from rfl, Int.mul_zero, Int.add_zero]; exact hC0⟩
  case round =>
    obtain ⟨j, rfl, hj, cs, hl, hg, hv, hC⟩ := hrel
    by_cases hjM : j < M
    · have hb := wgood_get hns j
      have hcell : wr.cell? ⟨N, j, none⟩ = some (.int .u64 (ns.getD j 0)) := (hC.bel.cell (p := ⟨N, j, none⟩) hN).trans (hn j (by omega))
      have hTj := hT (j + 1) hjM
      have hpw : pw (2 * i) * pw (2 * j) = pw (2 * (i + j)) := by rw [← pw_add, ← Nat.mul_add]
      have hV : V0 + a * pw (2 * i) * wval (ns.take (j + 1)) = V0 + a * pw (2 * i) * wval (ns.take j) + a * ns.getD j 0 * pw (2 * (i + j)) := by
        rw [wval_take_succ ns j (by omega), Int.mul_add, ← hpw]
        generalize wval (ns.take j) = z
        generalize ns.getD j 0 = b
        generalize pw (2 * i) = p
        generalize pw (2 * j) = q
        rw [show a * p * (b * q) = a * b * (p * q) by grind]
        omega
      rw [hV] at hTj
      obtain ⟨s, hs⟩ : ∃ s : Nat, s = i + j := ⟨_, rfl⟩
      rw [← hs] at hTj hV
      have e1 : IntKind.i64.wrap ((i : Int) + (j : Int)) = (s : Int) := by rw [IntKind.wrap_i64]; omega
      have e2 : IntKind.i64.wrap ((s : Int) + 1) = ((s + 1 : Nat) : Int) := by rw [IntKind.wrap_i64]; omega
      have hs16 : s < 16 := by omega
      generalize ns.getD j 0 = b at *
      have hM64 := fun W => mul64_c ha hb W
      have hp := word_prod ha hb
      have hlo : 0 ≤ a * b % 18446744073709551616 ∧ a * b % 18446744073709551616 < 18446744073709551616 := by omega
      have G := gather_c (w := wr) hC.cells hl hg s hs16 (a * b % 18446744073709551616) hlo
      have hx := wgood_get hg s
      have hst := fun W1 h1 => col_start (W1 := W1) hs16 ha hb hl hg hv hC h1
      generalize a * b % 18446744073709551616 = lo at *
      generalize a * b / 18446744073709551616 = hi' at *
      have hc0 : 0 ≤ (cs.getD s 0 + lo) / 18446744073709551616 ∧ (cs.getD s 0 + lo) / 18446744073709551616 ≤ 1 := by omega
      generalize cs.set s ((cs.getD s 0 + lo) % 18446744073709551616) = ds at *
      generalize (cs.getD s 0 + lo) / 18446744073709551616 = cy at *
      have e3 : IntKind.u64.wrap (hi' + cy) = hi' + cy := by rw [IntKind.wrap_u64]; omega
      have hjl : (j : Int) < (M : Int) := by omega
      have hj0 : (0 : Int) ≤ (j : Int) := by omega
      clear hx hl hg hv hC hs
      go_wp2_with fail
      with_reducible refine (hM64 _).mono ?_
      rintro e W1 ⟨rfl, rfl⟩
      go_wp2_with fail
      with_reducible refine G.mono ?_
      rintro e W2 ⟨rfl, hC2⟩
      obtain ⟨ds', g1, g2, g3, g4⟩ := hst _ hC2
      have hfin : ∀ W, ColsV C (V0 + a * pw (2 * i) * wval (ns.take j) + a * b * pw (2 * s)) w0 W → ∃ j' : Nat, Value.int .i64 ((j + 1 : Nat) : Int) = .int .i64 j' ∧ j' ≤ M ∧ ColsV C (V0 + a * pw (2 * i) * wval (ns.take j')) w0 W := fun W hW => ⟨j + 1, rfl, hjM, by rw [hV]; exact hW⟩
      clear hst hC2 G hM64 hcell hV hT
      generalize V0 + a * pw (2 * i) * wval (ns.take j) + a * b * pw (2 * s) = T at *
      go_wp2
      refine carry_loop hTj (show s + 1 ≤ 16 by omega) (show 0 ≤ hi' + cy by omega) (show hi' + cy < 18446744073709551616 by omega) g1 g2 g3 g4 _ _ _ _ _ _ _ _ _ _ _ _ _ _ _ _ _ _ _ _ _ _ _ _ _ _ _ _ _ _ _ _ _ _ _ _ _ _ _ _ _ _ _ _ _ _ _ _ _ _ _ _ _ _ _ _ _ _ _ _ _ _ _ _ _ _ _ _ _ _ _ _ _ _ _ _ _ _ _ (fun r14 r15 r55 r56 r57 r58 r59 r60 r61 r62 r63 r64 W hW => ?_) (fun r14 r15 r55 r56 r57 r58 r59 r60 r61 r62 r63 r64 W hW => ?_)
      · have hf := hfin W hW
        clear hfin hW g3 g4 g2 g1 hTj h2
        go_wp2
        go_roundw
        case rel => exact hf
        case measure => simp [intOf]; omega
      · have hf := hfin W hW
        clear hfin hW g3 g4 g2 g1 hTj h2
        go_wp2
        go_roundw
        case rel => exact hf
        case measure => simp [intOf]; omega
    · obtain rfl : j = M := by omega
      go_wp2
      exact ⟨cs, hl, hg, hv, hC⟩
end Go.Proofs.YtaafimabgcnbaabGreatDoor
namespace Go.Proofs.YtaafimabgcnbaabGreatDoor
open Go Go.Rx Go.RowKit Go.Big
attribute [local instance] noAv
theorem wgood_take {l : List Int} (h : wgood l) (j : Nat) : wgood (l.take j) := fun x hx => h x (List.mem_of_mem_take hx)
theorem wval_split : ∀ (l : List Int) (j : Nat), wval l = wval (l.take j) + pw (2 * j) * wval (l.drop j)
  | [], j => by simp [wval]
  | a :: l, 0 => by
    rw [List.take_zero, List.drop_zero, show pw (2 * 0) = 1 from rfl, Int.one_mul]
    show _ = 0 + _
    omega
  | a :: l, j + 1 => by
    have ih := wval_split l j
    show a + _ * wval l = a + _ * wval (l.take j) + pw (2 * (j + 1)) * wval (l.drop j)
    rw [ih, show 2 * (j + 1) = 2 + 2 * j by omega, pw_add, show pw 2 = 18446744073709551616 by decide, Int.mul_add, Int.mul_assoc]
    omega
theorem wval_take_le {l : List Int} (h : wgood l) (j : Nat) : wval (l.take j) ≤ wval l := by
  have h1 := wval_split l j
  have h2 := (wval_lt (ws := l.drop j) fun x hx => h x (List.mem_of_mem_drop hx)).1
  have h3 := Int.mul_nonneg (Int.le_of_lt (pw_pos (2 * j))) h2
  omega
theorem ColsV.next {C : Nat} {T : Int} {w W W1 : World} (h : ColsV C T w W) (hb : Below W.heap.size W W1) : ColsV C T w W1 := by
  obtain ⟨cs, h1, h2, h3, h4⟩ := h
  have hlt : C < W.heap.size := (Array.getElem?_eq_some_iff.1 h4.cells).1
  exact ⟨cs, h1, h2, h3, h4.bel.trans (hb.mono (Nat.le_of_lt hlt)), (hb.block C hlt).trans h4.cells⟩
theorem bound_row {ms ns : List Int} {i M j : Nat} (hm : wgood ms) (hml : ms.length = 8) (hn : wgood ns) (hnl : ns.length = 8) (hi : i < 8) : wval (ms.take i) * wval ns + ms.getD i 0 * pw (2 * i) * wval (ns.take j) < pw 32 := by
  have h1 := wval_take_succ ms i (by omega)
  have h2 := wval_take_le hn j
  have h3 := wval_lt (wgood_take hm (i + 1))
  have h4 : 0 ≤ wval ns ∧ wval ns < pw 16 := by have := wval_lt hn; rw [hnl] at this; exact this
  have h5 := wval_take_le hm (i + 1)
  have h6 : 0 ≤ wval ms ∧ wval ms < pw 16 := by have := wval_lt hm; rw [hml] at this; exact this
  have hx := (wgood_get hm i).1
  have hp := pw_pos (2 * i)
  have h7 := Int.mul_nonneg hx (Int.le_of_lt hp)
  have h8 := Int.mul_le_mul_of_nonneg_left h2 h7
  have h9 : wval (ms.take i) * wval ns + ms.getD i 0 * pw (2 * i) * wval ns = wval (ms.take (i + 1)) * wval ns := by rw [h1, Int.add_mul]
  have h10 := Int.mul_le_mul_of_nonneg_right h5 h4.1
  have h11 : wval ms * wval ns ≤ (pw 16 - 1) * (pw 16 - 1) := Int.mul_le_mul (by omega) (by omega) h4.1 (by have := pw_pos 16; omega)
  have h12 : (pw 16 - 1) * (pw 16 - 1) < pw 32 := by decide
  omega
noncomputable def outerL : Code := ((Tryz.f93.body.bind (findB 0)).getD .skip)
set_option maxHeartbeats 4000000 in
set_option maxRecDepth 100000 in
theorem outer_loop {C N A L M : Nat} {ms : List Int} {n0 n1 n2 n3 n4 n5 n6 n7 : Int} (hL : L ≤ 8) (hM : M ≤ 8) (hms : wgood ms) (hml : ms.length = 8) (hns : wgood [n0, n1, n2, n3, n4, n5, n6, n7]) (hnM : wval ([n0, n1, n2, n3, n4, n5, n6, n7].take M) = wval [n0, n1, n2, n3, n4, n5, n6, n7])
    {w0 : World} (hN : N < C) (hA : A < C) (hn : ∀ j, j < 8 → w0.cell? ⟨N, j, none⟩ = some (.int .u64 ([n0, n1, n2, n3, n4, n5, n6, n7].getD j 0))) (hm : ∀ j, j < 8 → w0.cell? ⟨A, j, none⟩ = some (.int .u64 (ms.getD j 0))) (hC0 : ColsV C 0 w0 w0)
    (hln : ∀ W, Calls Tryz.prog 72 #[.agg #[.int .u64 n0, .int .u64 n1, .int .u64 n2, .int .u64 n3, .int .u64 n4, .int .u64 n5, .int .u64 n6, .int .u64 n7]] W (Gets (fun _ r => r = .int .i64 M) W))
    (c0 c1 c2 c4 c5 c6 c16 c17 c18 c19 c20 c67 c68 c69 c70 c71 c72 c73 c74 c75 c76 c77 c78 c79 c80 u8 u9 u10 u11 u12 u13 u14 u15 u24 u25 u26 u27 u28 u29 u30 u31 u32 u33 u34 u35 u36 u37 u38 u39 u40 u41 u42 u43 u44 u45 u46 u47 u48 u49 u50 u51 u52 u53 u54 u55 u56 u57 u58 u59 u60 u61 u62 u63 u64 u65 u66 : Value) (Q : Exit → Act → World → Prop)
    (h2 : ∀ (u8 u9 u10 u11 u12 u13 u14 u15 u24 u25 u26 u27 u28 u29 u30 u31 u32 u33 u34 u35 u36 u37 u38 u39 u40 u41 u42 u43 u44 u45 u46 u47 u48 u49 u50 u51 u52 u53 u54 u55 u56 u57 u58 u59 u60 u61 u62 u63 u64 u65 u66 : Value) (W : World), ColsV C (wval (ms.take L) * wval [n0, n1, n2, n3, n4, n5, n6, n7]) w0 W → Q (.exit 0) ⟨(List.toArray (c0 :: c1 :: c2 :: (.pointer (some ⟨N, 0, none⟩)) :: c4 :: c5 :: c6 :: (.func (Fn.func 108) #[] #[.pointer (some ⟨C, 0, none⟩)]) :: u8 :: u9 :: u10 :: u11 :: u12 :: u13 :: u14 :: u15 :: c16 :: c17 :: c18 :: c19 :: c20 :: (.slice (some ⟨A, 0, none⟩) L 8) :: (.int .i64 (L : Nat)) :: (.int .i64 (L : Nat)) :: u24 :: u25 :: u26 :: u27 :: u28 :: u29 :: u30 :: u31 :: u32 :: u33 :: u34 :: u35 :: u36 :: u37 :: u38 :: u39 :: u40 :: u41 :: u42 :: u43 :: u44 :: u45 :: u46 :: u47 :: u48 :: u49 :: u50 :: u51 :: u52 :: u53 :: u54 :: u55 :: u56 :: u57 :: u58 :: u59 :: u60 :: u61 :: u62 :: u63 :: u64 :: u65 :: u66 :: c67 :: c68 :: c69 :: c70 :: c71 :: c72 :: c73 :: c74 :: c75 :: c76 :: c77 :: c78 :: c79 :: c80 :: [])), []⟩ W) :
    Code.wp Tryz.prog outerL Q ⟨(List.toArray (c0 :: c1 :: c2 :: (.pointer (some ⟨N, 0, none⟩)) :: c4 :: c5 :: c6 :: (.func (Fn.func 108) #[] #[.pointer (some ⟨C, 0, none⟩)]) :: u8 :: u9 :: u10 :: u11 :: u12 :: u13 :: u14 :: u15 :: c16 :: c17 :: c18 :: c19 :: c20 :: (.slice (some ⟨A, 0, none⟩) L 8) :: (.int .i64 (L : Nat)) :: (.int .i64 0) :: u24 :: u25 :: u26 :: u27 :: u28 :: u29 :: u30 :: u31 :: u32 :: u33 :: u34 :: u35 :: u36 :: u37 :: u38 :: u39 :: u40 :: u41 :: u42 :: u43 :: u44 :: u45 :: u46 :: u47 :: u48 :: u49 :: u50 :: u51 :: u52 :: u53 :: u54 :: u55 :: u56 :: u57 :: u58 :: u59 :: u60 :: u61 :: u62 :: u63 :: u64 :: u65 :: u66 :: c67 :: c68 :: c69 :: c70 :: c71 :: c72 :: c73 :: c74 :: c75 :: c76 :: c77 :: c78 :: c79 :: c80 :: [])), []⟩ w0 := by
  conv => arg 2; whnf
  go_loopw [23] (fun t W => ∃ i : Nat, t = .int .i64 i ∧ i ≤ L ∧ ColsV C (wval (ms.take i) * wval [n0, n1, n2, n3, n4, n5, n6, n7]) w0 W) (fun t _ => L - (intOf t).toNat)
  case atStart => exact ⟨0, rfl, Nat.zero_le _, by rw [List.take_zero, show wval [] = 0 from rfl, Int.zero_mul]; exact hC0⟩
  case round =>
    obtain ⟨i, rfl, hi, hcv⟩ := hrel
    by_cases hiL : i < L
    · have hbel : Below C w0 wr := by obtain ⟨_, _, _, _, h⟩ := hcv; exact h.bel
      have hcell : wr.cell? ⟨A, i, none⟩ = some (.int .u64 (ms.getD i 0)) := (hbel.cell (p := ⟨A, i, none⟩) hA).trans (hm i (by omega))
      have hn' : ∀ j, j < 8 → wr.cell? ⟨N, j, none⟩ = some (.int .u64 ([n0, n1, n2, n3, n4, n5, n6, n7].getD j 0)) := fun j hj => (hbel.cell (p := ⟨N, j, none⟩) hN).trans (hn j hj)
      have q0 := hn' 0 (by decide)
      have q1 := hn' 1 (by decide)
      have q2 := hn' 2 (by decide)
      have q3 := hn' 3 (by decide)
      have q4 := hn' 4 (by decide)
      have q5 := hn' 5 (by decide)
      have q6 := hn' 6 (by decide)
      have q7 := hn' 7 (by decide)
      have ha := wgood_get hms i
      have hT := fun j (_ : j ≤ M) => bound_row (M := M) (j := j) hms hml hns rfl (show i < 8 by omega)
      have hstep : wval (ms.take i) * wval [n0, n1, n2, n3, n4, n5, n6, n7] + ms.getD i 0 * pw (2 * i) * wval ([n0, n1, n2, n3, n4, n5, n6, n7].take M) = wval (ms.take (i + 1)) * wval [n0, n1, n2, n3, n4, n5, n6, n7] := by rw [hnM, wval_take_succ ms i (by omega), Int.add_mul]
      have hiL' : (i : Int) < (L : Int) := by omega
      have hi0 : (0 : Int) ≤ (i : Int) := by omega
      have hM0 : (0 : Int) ≤ (M : Int) := by omega
      have hM1 : (M : Int) ≤ 8 := by omega
      have hfin : ∀ W, ColsV C (wval (ms.take (i + 1)) * wval [n0, n1, n2, n3, n4, n5, n6, n7]) w0 W → ∃ i' : Nat, Value.int .i64 ((i + 1 : Nat) : Int) = .int .i64 i' ∧ i' ≤ L ∧ ColsV C (wval (ms.take i') * wval [n0, n1, n2, n3, n4, n5, n6, n7]) w0 W := fun W hW => ⟨i + 1, rfl, hiL, hW⟩
      have hHn := Lib.hid hn
      clear hn' hn hm
      generalize ms.getD i 0 = a at *
      go_wp2
      go_step3
      go_wp2
      go_step3
      go_wp2_with fail
      with_reducible refine (hln _).mono ?_
      rintro e W1 ⟨r, rfl, rfl, hb⟩
      have hcv1 := hcv.next hb
      clear hcv hb q0 q1 q2 q3 q4 q5 q6 q7 hcell hbel
      go_wp2
      refine middle_loop hM (show i < 8 by omega) hns rfl ha hT hN hHn.out hcv1 _ _ _ _ _ _ _ _ _ _ _ _ _ _ _ _ _ _ _ _ _ _ _ _ _ _ _ _ _ _ _ _ _ _ _ _ _ _ _ _ _ _ _ _ _ _ _ _ _ _ _ _ _ _ _ _ _ _ _ _ _ _ _ _ _ _ _ _ _ _ _ _ _ _ _ _ (fun r10 r11 r12 r13 r14 r15 r33 r34 r35 r36 r37 r38 r39 r40 r41 r42 r43 r44 r45 r46 r47 r48 r49 r50 r51 r52 r53 r54 r55 r56 r57 r58 r59 r60 r61 r62 r63 r64 r65 W hW => ?_)
      rw [hstep] at hW
      have hf := hfin W hW
      clear hcv1 hW hfin hT hstep hHn h2
      go_wp2
      change Exit.inBlock 1 _ Exit.normal _ _
      go_wp2
      go_roundw
      case rel => exact hf
      case measure => simp [intOf]; omega
    · obtain rfl : i = L := by omega
      go_wp2
      exact hcv
end Go.Proofs.YtaafimabgcnbaabGreatDoor
namespace Go.Proofs.YtaafimabgcnbaabGreatDoor
open Go Go.Rx Go.RowKit Go.Big
attribute [local instance] noAv
theorem heap4 (w : World) (o1 o2 o3 o4 : Obj) : ((((w.alloc o1).alloc o2).alloc o3).alloc o4).heap[w.heap.size]? = some o1 ∧ ((((w.alloc o1).alloc o2).alloc o3).alloc o4).heap[w.heap.size + 1]? = some o2 ∧ ((((w.alloc o1).alloc o2).alloc o3).alloc o4).heap[w.heap.size + 1 + 1]? = some o3 ∧ ((((w.alloc o1).alloc o2).alloc o3).alloc o4).heap[w.heap.size + 1 + 1 + 1]? = some o4 := by
  obtain ⟨h1, h2⟩ := heap2 w o1 o2
  obtain ⟨h3, h4⟩ := heap2 ((w.alloc o1).alloc o2) o3 o4
  have e : ((w.alloc o1).alloc o2).heap.size = w.heap.size + 1 + 1 := by simp
  have B := ((Below.refl (w.heap.size + 1 + 1) ((w.alloc o1).alloc o2)).alloc (by simp) o3).alloc (by simp) o4
  rw [e] at h3 h4
  exact ⟨(B.block _ (by omega)).trans h1, (B.block _ (by omega)).trans h2, h3, h4⟩
theorem list16 {α : Type} {l : List α} (h : l.length = 16) : ∃ a0 a1 a2 a3 a4 a5 a6 a7 b0 b1 b2 b3 b4 b5 b6 b7, l = [a0, a1, a2, a3, a4, a5, a6, a7, b0, b1, b2, b3, b4, b5, b6, b7] := by
  match l, h with
  | [a0, a1, a2, a3, a4, a5, a6, a7, b0, b1, b2, b3, b4, b5, b6, b7], _ => exact ⟨a0, a1, a2, a3, a4, a5, a6, a7, b0, b1, b2, b3, b4, b5, b6, b7, rfl⟩
/-- The two parts of a product: its low words, and whether there are no others. -/
def ProdR (T : Int) (r : Value) : Prop := ∃ (xs bs : List Int) (b : Bool), xs.length = 8 ∧ bs.length = 8 ∧ wgood (xs ++ bs) ∧ wval (xs ++ bs) = T ∧ (b = true ↔ ∀ x ∈ bs, x = 0) ∧ r = .tuple #[.agg (xs.map (Value.int .u64)).toArray, .bool b]
theorem wval_zero : ∀ k, wval (List.replicate k 0) = 0
  | 0 => rfl
  | k + 1 => by show 0 + _ * wval (List.replicate k 0) = 0; rw [wval_zero k]; decide
set_option maxHeartbeats 4000000 in
set_option maxRecDepth 100000 in
theorem magProduct_c {w : World} {m0 m1 m2 m3 m4 m5 m6 m7 n0 n1 n2 n3 n4 n5 n6 n7 : Int} {L M : Nat} (hL : L ≤ 8) (hM : M ≤ 8) (hms : wgood [m0, m1, m2, m3, m4, m5, m6, m7]) (hns : wgood [n0, n1, n2, n3, n4, n5, n6, n7]) (hmL : wval ([m0, m1, m2, m3, m4, m5, m6, m7].take L) = wval [m0, m1, m2, m3, m4, m5, m6, m7]) (hnM : wval ([n0, n1, n2, n3, n4, n5, n6, n7].take M) = wval [n0, n1, n2, n3, n4, n5, n6, n7])
    (hlm : ∀ W, Calls Tryz.prog 72 #[.agg #[.int .u64 m0, .int .u64 m1, .int .u64 m2, .int .u64 m3, .int .u64 m4, .int .u64 m5, .int .u64 m6, .int .u64 m7]] W (Gets (fun _ r => r = .int .i64 L) W))
    (hln : ∀ W, Calls Tryz.prog 72 #[.agg #[.int .u64 n0, .int .u64 n1, .int .u64 n2, .int .u64 n3, .int .u64 n4, .int .u64 n5, .int .u64 n6, .int .u64 n7]] W (Gets (fun _ r => r = .int .i64 M) W)) :
    Calls Tryz.prog 93 #[.agg #[.int .u64 m0, .int .u64 m1, .int .u64 m2, .int .u64 m3, .int .u64 m4, .int .u64 m5, .int .u64 m6, .int .u64 m7], .agg #[.int .u64 n0, .int .u64 n1, .int .u64 n2, .int .u64 n3, .int .u64 n4, .int .u64 n5, .int .u64 n6, .int .u64 n7]] w (Gets (fun _ r => ProdR (wval [m0, m1, m2, m3, m4, m5, m6, m7] * wval [n0, n1, n2, n3, n4, n5, n6, n7]) r) w) := by
  have hL0 : (0 : Int) ≤ (L : Int) := by omega
  have hL1 : (L : Int) ≤ 8 := by omega
  have hL2 : L ≤ 8 := hL
  obtain ⟨k1, k2, k3, k4⟩ := heap4 w (.cells #[.int .u64 m0, .int .u64 m1, .int .u64 m2, .int .u64 m3, .int .u64 m4, .int .u64 m5, .int .u64 m6, .int .u64 m7] 59) (.cells #[.int .u64 n0, .int .u64 n1, .int .u64 n2, .int .u64 n3, .int .u64 n4, .int .u64 n5, .int .u64 n6, .int .u64 n7] 59) (.cells #[.int .u64 0, .int .u64 0, .int .u64 0, .int .u64 0, .int .u64 0, .int .u64 0, .int .u64 0, .int .u64 0] 59) (.cells #[.int .u64 0, .int .u64 0, .int .u64 0, .int .u64 0, .int .u64 0, .int .u64 0, .int .u64 0, .int .u64 0, .int .u64 0, .int .u64 0, .int .u64 0, .int .u64 0, .int .u64 0, .int .u64 0, .int .u64 0, .int .u64 0] 142)
  have b4 : Below w.heap.size w ((((w.alloc (.cells #[.int .u64 m0, .int .u64 m1, .int .u64 m2, .int .u64 m3, .int .u64 m4, .int .u64 m5, .int .u64 m6, .int .u64 m7] 59)).alloc (.cells #[.int .u64 n0, .int .u64 n1, .int .u64 n2, .int .u64 n3, .int .u64 n4, .int .u64 n5, .int .u64 n6, .int .u64 n7] 59)).alloc (.cells #[.int .u64 0, .int .u64 0, .int .u64 0, .int .u64 0, .int .u64 0, .int .u64 0, .int .u64 0, .int .u64 0] 59)).alloc (.cells #[.int .u64 0, .int .u64 0, .int .u64 0, .int .u64 0, .int .u64 0, .int .u64 0, .int .u64 0, .int .u64 0, .int .u64 0, .int .u64 0, .int .u64 0, .int .u64 0, .int .u64 0, .int .u64 0, .int .u64 0, .int .u64 0] 142)) := ((((Below.refl _ _).alloc (Nat.le_refl _) _).alloc (by simp) _).alloc (by simp; omega) _).alloc (by simp; omega) _
  go_enter Tryz.func93, Tryz.ntmps93
  go_wp2_with fail
  generalize ((((w.alloc (.cells #[.int .u64 m0, .int .u64 m1, .int .u64 m2, .int .u64 m3, .int .u64 m4, .int .u64 m5, .int .u64 m6, .int .u64 m7] 59)).alloc (.cells #[.int .u64 n0, .int .u64 n1, .int .u64 n2, .int .u64 n3, .int .u64 n4, .int .u64 n5, .int .u64 n6, .int .u64 n7] 59)).alloc (.cells #[.int .u64 0, .int .u64 0, .int .u64 0, .int .u64 0, .int .u64 0, .int .u64 0, .int .u64 0, .int .u64 0] 59)).alloc (.cells #[.int .u64 0, .int .u64 0, .int .u64 0, .int .u64 0, .int .u64 0, .int .u64 0, .int .u64 0, .int .u64 0, .int .u64 0, .int .u64 0, .int .u64 0, .int .u64 0, .int .u64 0, .int .u64 0, .int .u64 0, .int .u64 0] 142)) = W4 at *
  generalize hC : w.heap.size + 1 + 1 + 1 = C at *
  with_reducible refine (hlm _).mono ?_
  rintro e w1 ⟨r1, rfl, rfl, hb1⟩
  have hClt : C < W4.heap.size := (Array.getElem?_eq_some_iff.1 k4).1
  have q1 := (hb1.block w.heap.size (by omega)).trans k1
  have q2 := (hb1.block (w.heap.size + 1) (by omega)).trans k2
  have q3 := (hb1.block (w.heap.size + 1 + 1) (by omega)).trans k3
  have q4 := (hb1.block C hClt).trans k4
  have b1 : Below w.heap.size w w1 := b4.trans (hb1.mono b4.size)
  clear hb1 k1 k2 k3 k4 b4 hlm
  have hm : ∀ j, j < 8 → w1.cell? ⟨w.heap.size, j, none⟩ = some (.int .u64 ([m0, m1, m2, m3, m4, m5, m6, m7].getD j 0)) := fun j hj => by
    rw [cellOf q1]; exact col_words (l := [m0, m1, m2, m3, m4, m5, m6, m7]) hj
  have hn : ∀ j, j < 8 → w1.cell? ⟨w.heap.size + 1, j, none⟩ = some (.int .u64 ([n0, n1, n2, n3, n4, n5, n6, n7].getD j 0)) := fun j hj => by
    rw [cellOf q2]; exact col_words (l := [n0, n1, n2, n3, n4, n5, n6, n7]) hj
  have hc0 : ColsV C 0 w1 w1 := ⟨List.replicate 16 0, rfl, (fun x hx => by rw [List.eq_of_mem_replicate hx]; decide), wval_zero 16, Below.refl _ _, q4⟩
  have Hm := Lib.hid hm
  have Hn := Lib.hid hn
  clear hm hn q4 q1 q2
  go_wp2
  refine outer_loop hL hM hms rfl hns hnM (show w.heap.size + 1 < C by omega) (show w.heap.size < C by omega) Hn.out Hm.out hc0 hln _ _ _ _ _ _ _ _ _ _ _ _ _ _ _ _ _ _ _ _ _ _ _ _ _ _ _ _ _ _ _ _ _ _ _ _ _ _ _ _ _ _ _ _ _ _ _ _ _ _ _ _ _ _ _ _ _ _ _ _ _ _ _ _ _ _ _ _ _ _ _ _ _ _ _ _ _ (fun r8 r9 r10 r11 r12 r13 r14 r15 r24 r25 r26 r27 r28 r29 r30 r31 r32 r33 r34 r35 r36 r37 r38 r39 r40 r41 r42 r43 r44 r45 r46 r47 r48 r49 r50 r51 r52 r53 r54 r55 r56 r57 r58 r59 r60 r61 r62 r63 r64 r65 r66 W hW => ?_)
  rw [hmL] at hW
  obtain ⟨cs, hl, hg, hv, hcol⟩ := hW
  have q3' := (hcol.bel.block (w.heap.size + 1 + 1) (by omega)).trans q3
  have k4 := hcol.cells
  have bW : Below w.heap.size w W := b1.trans (hcol.bel.mono (by omega))
  obtain ⟨a0, a1, a2, a3, a4, a5, a6, a7, b0, b1, b2, b3, b4, b5, b6, b7, rfl⟩ := list16 hl
  clear hcol hc0 Hm Hn q3 hln hl
  have q3 := q3'
  clear q3'
  go_wp2
  obtain ⟨Wf, hWf⟩ : ∃ Wf, Wf = W.drew.setRow (w.heap.size + 1 + 1) #[.int .u64 a0, .int .u64 a1, .int .u64 a2, .int .u64 a3, .int .u64 a4, .int .u64 a5, .int .u64 a6, .int .u64 a7] := ⟨_, rfl⟩
  have q3d : W.drew.heap[w.heap.size + 1 + 1]? = some (.cells #[.int .u64 0, .int .u64 0, .int .u64 0, .int .u64 0, .int .u64 0, .int .u64 0, .int .u64 0, .int .u64 0] 59) := q3
  have hcp : (Builtin.copy_ #[126, 126] 3 #[.slice (some ⟨w.heap.size + 1 + 1, 0, none⟩) 8 8, .slice (some ⟨C, 0, none⟩) 8 16]).run Tryz.prog W.drew = .ok (.int .i64 8) Wf := by
    rw [hWf]
    exact run_copy_row (P := Tryz.prog) W.drew 126 126 3 22 (w.heap.size + 1 + 1) 0 8 8 ⟨C, 0, none⟩ 8 16 #[.int .u64 0, .int .u64 0, .int .u64 0, .int .u64 0, .int .u64 0, .int .u64 0, .int .u64 0, .int .u64 0] 59 [.int .u64 a0, .int .u64 a1, .int .u64 a2, .int .u64 a3, .int .u64 a4, .int .u64 a5, .int .u64 a6, .int .u64 a7] Tryz.underlying126 (by kernel_rfl) q3d rfl (fun j v hj => by
      rw [Addr.add_mid, Nat.zero_add]
      show W.cell? ⟨C, j, none⟩ = some v
      have hlt := (List.getElem?_eq_some_iff.1 hj).1
      rw [cellOf k4, List.getElem?_toArray, ← hj]
      exact List.getElem?_append_left (l₁ := [.int .u64 a0, .int .u64 a1, .int .u64 a2, .int .u64 a3, .int .u64 a4, .int .u64 a5, .int .u64 a6, .int .u64 a7]) (l₂ := [.int .u64 b0, .int .u64 b1, .int .u64 b2, .int .u64 b3, .int .u64 b4, .int .u64 b5, .int .u64 b6, .int .u64 b7]) hlt) (show 0 + 8 ≤ 8 by decide) (fun v hv => by simp only [List.mem_cons, List.not_mem_nil, or_false] at hv; rcases hv with rfl | rfl | rfl | rfl | rfl | rfl | rfl | rfl <;> rfl)
  have f3 : Wf.heap[w.heap.size + 1 + 1]? = some (.cells #[.int .u64 a0, .int .u64 a1, .int .u64 a2, .int .u64 a3, .int .u64 a4, .int .u64 a5, .int .u64 a6, .int .u64 a7] 59) := by rw [hWf]; exact setRow_heap _ _ _ _ _ _ q3d
  have f4 : Wf.heap[C]? = some (.cells #[.int .u64 a0, .int .u64 a1, .int .u64 a2, .int .u64 a3, .int .u64 a4, .int .u64 a5, .int .u64 a6, .int .u64 a7, .int .u64 b0, .int .u64 b1, .int .u64 b2, .int .u64 b3, .int .u64 b4, .int .u64 b5, .int .u64 b6, .int .u64 b7] 142) := by rw [hWf, setRow_other _ _ _ _ (by omega)]; exact k4
  have bf : Below w.heap.size w Wf := by rw [hWf]; exact below_setRow bW.drew (by omega) _
  clear hWf q3d q3 k4 bW
  go_region_with (fail)
  have hfin : ∀ (b : Bool), (b = true ↔ ∀ x ∈ [b0, b1, b2, b3, b4, b5, b6, b7], x = 0) → ProdR (wval [m0, m1, m2, m3, m4, m5, m6, m7] * wval [n0, n1, n2, n3, n4, n5, n6, n7]) (.tuple #[.agg #[.int .u64 a0, .int .u64 a1, .int .u64 a2, .int .u64 a3, .int .u64 a4, .int .u64 a5, .int .u64 a6, .int .u64 a7], .bool b]) :=
    fun b hb => ⟨[a0, a1, a2, a3, a4, a5, a6, a7], [b0, b1, b2, b3, b4, b5, b6, b7], b, rfl, rfl, hg, hv, hb, rfl⟩
  have hcol : ∀ k, k < 8 → Wf.cell? ⟨C, 8 + k, none⟩ = some (.int .u64 ([b0, b1, b2, b3, b4, b5, b6, b7].getD k 0)) := fun k hk => by
    rw [cellOf f4]
    have h1 := col_words (l := [a0, a1, a2, a3, a4, a5, a6, a7, b0, b1, b2, b3, b4, b5, b6, b7]) (i := k + 8) (show k + 8 < 16 by omega)
    rw [show ([a0, a1, a2, a3, a4, a5, a6, a7, b0, b1, b2, b3, b4, b5, b6, b7] : List Int).getD (k + 8) 0 = [b0, b1, b2, b3, b4, b5, b6, b7].getD k 0 from rfl] at h1
    rw [Nat.add_comm 8 k]
    exact h1
  obtain ⟨y0, y1, y2, y3, y4, y5, y6, y7⟩ : Wf.cell? ⟨w.heap.size + 1 + 1, 0, none⟩ = some (.int .u64 a0) ∧ Wf.cell? ⟨w.heap.size + 1 + 1, 1, none⟩ = some (.int .u64 a1) ∧ Wf.cell? ⟨w.heap.size + 1 + 1, 2, none⟩ = some (.int .u64 a2) ∧ Wf.cell? ⟨w.heap.size + 1 + 1, 3, none⟩ = some (.int .u64 a3) ∧ Wf.cell? ⟨w.heap.size + 1 + 1, 4, none⟩ = some (.int .u64 a4) ∧ Wf.cell? ⟨w.heap.size + 1 + 1, 5, none⟩ = some (.int .u64 a5) ∧ Wf.cell? ⟨w.heap.size + 1 + 1, 6, none⟩ = some (.int .u64 a6) ∧ Wf.cell? ⟨w.heap.size + 1 + 1, 7, none⟩ = some (.int .u64 a7) := ⟨(cellOf (j := 0) f3).trans rfl, (cellOf (j := 1) f3).trans rfl, (cellOf (j := 2) f3).trans rfl, (cellOf (j := 3) f3).trans rfl, (cellOf (j := 4) f3).trans rfl, (cellOf (j := 5) f3).trans rfl, (cellOf (j := 6) f3).trans rfl, (cellOf (j := 7) f3).trans rfl⟩
  have fl : ∀ j, Wf.frozen? ⟨w.heap.size + 1 + 1, j, none⟩ = false := fun j => frozenOf f3
  have hsz : w.heap.size + 1 + 1 < Wf.heap.size := (Array.getElem?_eq_some_iff.1 f3).1
  clear hcp f3 f4 hg hv
  generalize hbs : [b0, b1, b2, b3, b4, b5, b6, b7] = bs at *
  have hbl : bs.length = 8 := by rw [← hbs]; rfl
  clear hbs hmL hnM hms hns
  go_wp2
  go_loop [72] (fun t => ∃ k : Nat, t = .int .i64 k ∧ k ≤ 8 ∧ ∀ j, j < k → bs.getD j 0 = 0) (fun t => 8 - (intOf t).toNat)
  case atStart => exact ⟨0, rfl, by omega, fun j hj => absurd hj (Nat.not_lt_zero _)⟩
  case round =>
    obtain ⟨k, rfl, hk, hz⟩ := hrel
    by_cases h8 : k < 8
    · have hx := hcol k h8
      have hk0 : (0 : Int) ≤ (k : Int) := by omega
      have hk1 : (k : Int) < 8 := by omega
      by_cases h0 : bs.getD k 0 = 0
      · rw [h0] at hx
        have hfin' : ∃ k' : Nat, Value.int .i64 ((k + 1 : Nat) : Int) = .int .i64 k' ∧ k' ≤ 8 ∧ ∀ j, j < k' → bs.getD j 0 = 0 := ⟨k + 1, rfl, h8, fun j hj => by
          rcases Nat.lt_or_ge j k with h | h
          · exact hz j h
          · rw [show j = k by omega]; exact h0⟩
        clear hcol hz h0
        go_wp2
        go_round
        case rel => exact hfin'
        case measure => simp [intOf]; omega
      · have hfin' := hfin false ⟨fun h => by (cases h), fun h => absurd (h _ (by rw [List.getD_eq_getElem?_getD, List.getElem?_eq_getElem (by omega)]; exact List.getElem_mem _)) h0⟩
        generalize bs.getD k 0 = x at *
        have h0' : (x == 0) = false := by simpa using h0
        clear hcol hz hfin
        go_wp2
        exact bodyPost_ret (v := .tuple #[.agg #[.int .u64 a0, .int .u64 a1, .int .u64 a2, .int .u64 a3, .int .u64 a4, .int .u64 a5, .int .u64 a6, .int .u64 a7], .bool false]) (by simp [results, Tryz.results93, go_sem, y0, y1, y2, y3, y4, y5, y6, y7, hsz]) rfl ⟨_, rfl, hfin', below_set8 bf (by omega) _ _ _ _ _ _ _ _⟩
    · obtain rfl : k = 8 := by omega
      have hfin' := hfin true ⟨fun _ x hx => by
        obtain ⟨i, hi, rfl⟩ := List.getElem_of_mem hx
        have := hz i (by omega)
        rw [List.getD_eq_getElem?_getD, List.getElem?_eq_getElem hi] at this
        exact this, fun _ => rfl⟩
      clear hcol hz hfin
      go_wp2
      exact bodyPost_ret (v := .tuple #[.agg #[.int .u64 a0, .int .u64 a1, .int .u64 a2, .int .u64 a3, .int .u64 a4, .int .u64 a5, .int .u64 a6, .int .u64 a7], .bool true]) (by simp [results, Tryz.results93, go_sem, y0, y1, y2, y3, y4, y5, y6, y7, hsz]) rfl ⟨_, rfl, hfin', below_set8 bf (by omega) _ _ _ _ _ _ _ _⟩
end Go.Proofs.YtaafimabgcnbaabGreatDoor
namespace Go.Proofs.YtaafimabgcnbaabGreatDoor
open Go Go.Rx Go.RowKit Go.Big
/-- A contract of the walk, for the runner. -/
theorem gives_of {f : FuncId} {xs : List Value} {x : Value} (he : ∀ args w, (callFunc f args).run Tryz.prog w = .ok (.enter f args) w) (h : ∀ w, Calls Tryz.prog f xs.toArray w (@Gets (fun _ r => r = x) w)) : Gives Tryz.prog f xs x :=
  fun w => ⟨he _ w, (h w).mono fun e w' hr => by obtain ⟨r, rfl, rfl, hb⟩ := hr; exact ⟨rfl, hb⟩⟩
def digs (m : Nat) : List Int := [(dig m 0 : Int), (dig m 1 : Int), (dig m 2 : Int), (dig m 3 : Int), (dig m 4 : Int), (dig m 5 : Int), (dig m 6 : Int), (dig m 7 : Int)]
theorem digs_good (m : Nat) : wgood (digs m) := by
  intro y hy
  have hd := dig_lt m
  have := hd 0; have := hd 1; have := hd 2; have := hd 3; have := hd 4; have := hd 5; have := hd 6; have := hd 7
  simp only [digs, List.mem_cons, List.not_mem_nil, or_false] at hy
  rcases hy with rfl | rfl | rfl | rfl | rfl | rfl | rfl | rfl <;> omega
theorem wval8 (a b c d e f g h : Int) : wval [a, b, c, d, e, f, g, h] = a + 18446744073709551616 * (b + 18446744073709551616 * (c + 18446744073709551616 * (d + 18446744073709551616 * (e + 18446744073709551616 * (f + 18446744073709551616 * (g + 18446744073709551616 * (h + 18446744073709551616 * 0))))))) := rfl
theorem digs_val {m : Nat} (hm : m < 13407807929942597099574024998205846127479365820592393377723561443721764030073546976801874298166903427690031858186486050853753882811946569946433649006084096) : wval (digs m) = m := by
  obtain ⟨Q, hQ⟩ : ∃ Q : Nat → Nat, ∀ i, Q i = m / 2 ^ (64 * i) := ⟨_, fun _ => rfl⟩
  have dd : ∀ i, Q i = Q (i + 1) * 18446744073709551616 + dig m i := fun i => by rw [hQ, hQ]; exact div_step m i
  have z0 : Q 0 = m := by rw [hQ, Nat.mul_zero, Nat.pow_zero, Nat.div_one]
  have z8 : Q (7 + 1) = 0 := by
    rw [hQ, p2_next]
    exact Nat.div_eq_of_lt hm
  have d0 : Q 0 = Q 1 * 18446744073709551616 + dig m 0 := dd 0
  have d1 : Q 1 = Q 2 * 18446744073709551616 + dig m 1 := dd 1
  have d2 : Q 2 = Q 3 * 18446744073709551616 + dig m 2 := dd 2
  have d3 : Q 3 = Q 4 * 18446744073709551616 + dig m 3 := dd 3
  have d4 : Q 4 = Q 5 * 18446744073709551616 + dig m 4 := dd 4
  have d5 : Q 5 = Q 6 * 18446744073709551616 + dig m 5 := dd 5
  have d6 : Q 6 = Q 7 * 18446744073709551616 + dig m 6 := dd 6
  have d7 : Q 7 = Q (7 + 1) * 18446744073709551616 + dig m 7 := dd 7
  rw [z8] at d7
  clear z8 hQ dd
  unfold digs
  rw [wval8]
  omega
theorem digs_take {m L : Nat} (hL : L ≤ 8) (h : m < 2 ^ (64 * L)) : wval ((digs m).take L) = wval (digs m) := by
  have z : ∀ i, L ≤ i → (dig m i : Int) = 0 := fun i hi => by rw [dig_high h hi]; rfl
  have e := wval_split (digs m) L
  have hz : ∀ x ∈ (digs m).drop L, x = 0 := by
    intro x hx
    obtain ⟨i, hi, rfl⟩ := List.getElem_of_mem hx
    rw [List.getElem_drop]
    have hi' : L + i < 8 := by have : (digs m).length = 8 := rfl; rw [List.length_drop, this] at hi; omega
    have : ∀ j (hj : j < (digs m).length), (digs m)[j] = (dig m j : Int) := by
      intro j hj
      have hj' : j < 8 := hj
      match j, hj' with
      | 0, _ => rfl
      | 1, _ => rfl
      | 2, _ => rfl
      | 3, _ => rfl
      | 4, _ => rfl
      | 5, _ => rfl
      | 6, _ => rfl
      | 7, _ => rfl
    rw [this, z _ (by omega)]
  have hw : ∀ l : List Int, (∀ x ∈ l, x = 0) → wval l = 0 := by
    intro l
    induction l with
    | nil => intro _; rfl
    | cons a l ih =>
      intro h
      show a + _ * wval l = 0
      rw [ih fun x hx => h x (by simp [hx]), h a (by simp)]; decide
  rw [hw _ hz, Int.mul_zero, Int.add_zero] at e
  exact e.symm
theorem wval_append : ∀ xs bs : List Int, wval (xs ++ bs) = wval xs + pw (2 * xs.length) * wval bs
  | [], bs => by show wval bs = 0 + pw 0 * wval bs; rw [show pw 0 = 1 from rfl]; omega
  | a :: xs, bs => by
    have ih := wval_append xs bs
    show a + _ * wval (xs ++ bs) = a + _ * wval xs + pw (2 * (xs.length + 1)) * wval bs
    rw [ih, show 2 * (xs.length + 1) = 2 + 2 * xs.length by omega, pw_add, show pw 2 = 18446744073709551616 by decide, Int.mul_add, Int.mul_assoc]
    omega
theorem wval_zero_iff : ∀ {l : List Int}, wgood l → ((∀ x ∈ l, x = 0) ↔ wval l = 0)
  | [], _ => ⟨fun _ => rfl, fun _ x hx => by cases hx⟩
  | a :: l, h => by
    have ha := h a (by simp)
    have hl : wgood l := fun x hx => h x (by simp [hx])
    have ih := wval_zero_iff hl
    have h0 := (wval_lt hl).1
    constructor
    · intro hx
      show a + _ * wval l = 0
      rw [ih.1 fun x hx' => hx x (by simp [hx']), hx a (by simp)]; decide
    · intro hv
      have hv : a + 18446744073709551616 * wval l = 0 := hv
      have hz : wval l = 0 := by omega
      have ha0 : a = 0 := by omega
      intro x hx
      rcases List.mem_cons.1 hx with rfl | hx
      · exact ha0
      · exact ih.2 hz x hx
theorem list8i {l : List Int} (h : l.length = 8) : ∃ a b c d e f g i, l = [a, b, c, d, e, f, g, i] := by
  match l, h with
  | [a, b, c, d, e, f, g, i], _ => exact ⟨a, b, c, d, e, f, g, i, rfl⟩
theorem mag_words {xs : List Int} (hl : xs.length = 8) (hg : wgood xs) {k : Nat} (hk : (k : Int) = wval xs) : magV k = .agg (xs.map (Value.int .u64)).toArray := by
  obtain ⟨a, b, c, d, e, f, g, i, rfl⟩ := list8i hl
  have ha := hg a (by simp)
  have hb := hg b (by simp)
  have hc := hg c (by simp)
  have hd := hg d (by simp)
  have he := hg e (by simp)
  have hf := hg f (by simp)
  have hg' := hg g (by simp)
  have hi := hg i (by simp)
  obtain ⟨a, rfl⟩ := Int.eq_ofNat_of_zero_le ha.1
  obtain ⟨b, rfl⟩ := Int.eq_ofNat_of_zero_le hb.1
  obtain ⟨c, rfl⟩ := Int.eq_ofNat_of_zero_le hc.1
  obtain ⟨d, rfl⟩ := Int.eq_ofNat_of_zero_le hd.1
  obtain ⟨e, rfl⟩ := Int.eq_ofNat_of_zero_le he.1
  obtain ⟨f, rfl⟩ := Int.eq_ofNat_of_zero_le hf.1
  obtain ⟨g, rfl⟩ := Int.eq_ofNat_of_zero_le hg'.1
  obtain ⟨i, rfl⟩ := Int.eq_ofNat_of_zero_le hi.1
  have e1 := magV_build a b c d e f g i (by omega) (by omega) (by omega) (by omega) (by omega) (by omega) (by omega) (by omega)
  have e2 : k = build [a, b, c, d, e, f, g, i] := by
    rw [wval8] at hk
    simp only [build]
    omega
  rw [e2, e1]
  rfl
/-- (magnitude).product. -/
theorem f_prodG (m n : Nat) (hm : m < 13407807929942597099574024998205846127479365820592393377723561443721764030073546976801874298166903427690031858186486050853753882811946569946433649006084096) (hn : n < 13407807929942597099574024998205846127479365820592393377723561443721764030073546976801874298166903427690031858186486050853753882811946569946433649006084096) :
    Gives Tryz.prog 93 [magV m, magV n] (.tuple #[magV (m * n), .bool (decide (m * n < 13407807929942597099574024998205846127479365820592393377723561443721764030073546976801874298166903427690031858186486050853753882811946569946433649006084096))]) := by
  obtain ⟨L, hL, hl⟩ := has_len m 8 (by rw [p2_eight]; exact hm)
  obtain ⟨M, hM, hl'⟩ := has_len n 8 (by rw [p2_eight]; exact hn)
  refine gives_of (enters_of Tryz.func93 (by kernel_rfl) rfl) fun w => ?_
  refine (magProduct_c hL hM (digs_good m) (digs_good n) (digs_take hL hl.1) (digs_take hM hl'.1) (gives_gets (f_length m L hL hl)) (gives_gets (f_length n M hM hl'))).mono fun e w' hr => ?_
  obtain ⟨r, rfl, ⟨xs, bs, b, hx, hb, hg, hv, hiff, rfl⟩, hB⟩ := hr
  refine ⟨_, rfl, ?_, hB⟩
  have hxg : wgood xs := fun y hy => hg y (by simp [hy])
  have hbg : wgood bs := fun y hy => hg y (by simp [hy])
  have hvm : wval [(dig m 0 : Int), dig m 1, dig m 2, dig m 3, dig m 4, dig m 5, dig m 6, dig m 7] = m := digs_val hm
  have hvn : wval [(dig n 0 : Int), dig n 1, dig n 2, dig n 3, dig n 4, dig n 5, dig n 6, dig n 7] = n := digs_val hn
  rw [hvm, hvn, wval_append, hx, show pw (2 * 8) = pw 16 from rfl, pw16, ← Int.natCast_mul] at hv
  have h1 := wval_lt hxg
  rw [hx, show pw (2 * 8) = pw 16 from rfl, pw16] at h1
  have h2 := (wval_lt hbg).1
  have h3 := wval_zero_iff hbg
  obtain ⟨X, hX⟩ := Int.eq_ofNat_of_zero_le h1.1
  obtain ⟨Y, hY⟩ := Int.eq_ofNat_of_zero_le h2
  rw [hX, hY] at hv
  rw [hX] at h1
  rw [hY] at h3
  generalize m * n = T at *
  have e1 : magV T = .agg (xs.map (Value.int .u64)).toArray := by
    rw [← magV_mod T, show T % 13407807929942597099574024998205846127479365820592393377723561443721764030073546976801874298166903427690031858186486050853753882811946569946433649006084096 = X by omega]
    exact mag_words hx hxg hX.symm
  have e2 : b = decide (T < 13407807929942597099574024998205846127479365820592393377723561443721764030073546976801874298166903427690031858186486050853753882811946569946433649006084096) := by
    rw [Bool.eq_iff_iff, hiff, h3, decide_eq_true_eq]
    omega
  rw [e1, e2]
end Go.Proofs.YtaafimabgcnbaabGreatDoor
namespace Go.Proofs.YtaafimabgcnbaabGreatDoor
open Go Go.Rx Go.RowKit Go.Big
theorem timesG_run (σ : Nat → Int) (b c f : Bool) : runs σ [⟨93, [inN 0, inN 1], .tup [inN 2, b1 f]⟩] [] ⟨67, [sgN 0 b, sgN 1 c], .tup [sgN 2 (b != c), b1 f]⟩ 200 = true := by
  cases b <;> cases c <;> cases f <;> kernel_rfl
/-- (signed).times. -/
theorem f_timesG (m n : Nat) (b c : Bool) (hm : m < 13407807929942597099574024998205846127479365820592393377723561443721764030073546976801874298166903427690031858186486050853753882811946569946433649006084096) (hn : n < 13407807929942597099574024998205846127479365820592393377723561443721764030073546976801874298166903427690031858186486050853753882811946569946433649006084096) :
    Gives Tryz.prog 67 [sgV m b, sgV n c] (Sgd.V ⟨m * n % 13407807929942597099574024998205846127479365820592393377723561443721764030073546976801874298166903427690031858186486050853753882811946569946433649006084096, b != c, decide (m * n < 13407807929942597099574024998205846127479365820592393377723561443721764030073546976801874298166903427690031858186486050853753882811946569946433649006084096)⟩) := by
  have r1 : RowGives Tryz.prog (sigN (lst [m, n, m * n])) ⟨93, [inN 0, inN 1], .tup [inN 2, b1 (decide (m * n < 13407807929942597099574024998205846127479365820592393377723561443721764030073546976801874298166903427690031858186486050853753882811946569946433649006084096))]⟩ := by
    refine ⟨rfl, ?_⟩
    simp only [List.map_cons, List.map_nil, val_inN, valV_tup2, val_b1]
    exact f_prodG m n hm hn
  have := run_gives _ _ [] (one_row r1) no_test _ 200 (fun σ => timesG_run σ b c _)
  simp only [List.map_cons, List.map_nil, valV_tup2, val_sgN, val_b1] at this
  unfold Sgd.V
  simp only
  rw [sgV_mod]
  exact this
theorem prod_ok (x y : Int) : (x.natAbs * y.natAbs < 13407807929942597099574024998205846127479365820592393377723561443721764030073546976801874298166903427690031858186486050853753882811946569946433649006084096 → sg (x.natAbs * y.natAbs) (decide (x < 0) != decide (y < 0)) = x * y) ∧ (¬ x.natAbs * y.natAbs < 13407807929942597099574024998205846127479365820592393377723561443721764030073546976801874298166903427690031858186486050853753882811946569946433649006084096 → ¬ fit (x * y)) := by
  have hp := p512_nat
  have e : ((x.natAbs * y.natAbs : Nat) : Int) = ((x * y).natAbs : Int) := by rw [Int.natAbs_mul]
  constructor
  · intro _
    have ex : (x.natAbs : Int) = if x < 0 then -x else x := by split <;> omega
    have ey : (y.natAbs : Int) = if y < 0 then -y else y := by split <;> omega
    unfold sg
    rw [Int.natCast_mul, ex, ey]
    by_cases hx : x < 0 <;> by_cases hy : y < 0 <;> simp [hx, hy, Int.neg_mul_neg, Int.neg_mul, Int.mul_neg]
  · intro h
    generalize x.natAbs * y.natAbs = k at *
    generalize x * y = z at *
    unfold fit P511 P512 at *
    omega
/-- Mul. -/
theorem f_MulG (x y : Int) (hx : fit x) (hy : fit y) : Gives Tryz.prog 21 [W x, W y] (resV (x * y) (fit (x * y))) := by
  obtain ⟨h1, h2⟩ := prod_ok x y
  have ht := f_timesG x.natAbs y.natAbs (decide (x < 0)) (decide (y < 0)) (abs_lt hx) (abs_lt hy)
  have := f_op 42 67 21 (.inr (.inr ⟨rfl, rfl, rfl⟩)) x y hx hy ⟨x.natAbs * y.natAbs % 13407807929942597099574024998205846127479365820592393377723561443721764030073546976801874298166903427690031858186486050853753882811946569946433649006084096, decide (x < 0) != decide (y < 0), decide (x.natAbs * y.natAbs < 13407807929942597099574024998205846127479365820592393377723561443721764030073546976801874298166903427690031858186486050853753882811946569946433649006084096)⟩ (Nat.mod_lt _ pow512) ht
  rwa [resV_sum (z := x * y) (fun h => by
    have h' := of_decide_eq_true h
    simp only
    rw [Nat.mod_eq_of_lt h']
    exact h1 h') (fun h => h2 (of_decide_eq_false h))] at this
end Go.Proofs.YtaafimabgcnbaabGreatDoor
namespace Go.Proofs.YtaafimabgcnbaabGreatDoor
open Go Go.Rx Go.RowKit
/-- combine, for each operation. -/
theorem f_comb (o : Int) (fn g : FuncId) (ho : opOf o fn g) (x y : Int) (hx : fit x) (hy : fit y) (s : Sgd) (hs : s.n < 13407807929942597099574024998205846127479365820592393377723561443721764030073546976801874298166903427690031858186486050853753882811946569946433649006084096) (h : Gives Tryz.prog fn [sgV x.natAbs (decide (x < 0)), sgV y.natAbs (decide (y < 0))] s.V) :
    Gives Tryz.prog 41 [W x, .int .i32 o, W y] (resV (sg s.n s.b) (s.f = true ∧ fit (sg s.n s.b))) := by
  obtain ⟨r, e, he, hr⟩ := resV_eq (sg s.n s.b) (s.f = true ∧ fit (sg s.n s.b))
  have k1 : RowGives Tryz.prog (sigN (lst [un x, un y, x.natAbs, y.natAbs, s.n, un r])) ⟨33, [inN 0], .s (sgN 2 (decide (x < 0)))⟩ := by
    refine ⟨rfl, ?_⟩
    simp only [List.map_cons, List.map_nil, val_inN, valV_s, val_sgN]
    exact f_signedOf x hx
  have k2 : RowGives Tryz.prog (sigN (lst [un x, un y, x.natAbs, y.natAbs, s.n, un r])) ⟨33, [inN 1], .s (sgN 3 (decide (y < 0)))⟩ := by
    refine ⟨rfl, ?_⟩
    simp only [List.map_cons, List.map_nil, val_inN, valV_s, val_sgN]
    exact f_signedOf y hy
  have k3 : RowGives Tryz.prog (sigN (lst [un x, un y, x.natAbs, y.natAbs, s.n, un r])) ⟨fn, [sgN 2 (decide (x < 0)), sgN 3 (decide (y < 0))], .tup [sgN 4 s.b, b1 s.f]⟩ := by
    refine ⟨rfl, ?_⟩
    simp only [List.map_cons, List.map_nil, valV_tup2, val_sgN, val_b1]
    exact h
  have k4 : RowGives Tryz.prog (sigN (lst [un x, un y, x.natAbs, y.natAbs, s.n, un r])) ⟨32, [sgN 4 s.b, b1 s.f], .tup [inN 5, i1 e]⟩ := by
    refine ⟨rfl, ?_⟩
    simp only [List.map_cons, List.map_nil, valV_tup2, val_sgN, val_b1, val_inN, val_i1]
    have := f_wideOf s.n s.b s.f hs
    unfold resV at hr
    rw [hr] at this
    exact this
  have c := run_gives _ _ [] (more_row k1 (more_row k2 (more_row k3 (one_row k4)))) no_test ⟨41, [inN 0, o1 o, inN 1], _⟩ 100 (fun σ => combine_run σ o fn g ho _ _ _ _ e he)
  simp only [List.map_cons, List.map_nil, valV_tup2, val_inN, val_i1] at c
  rw [hr]
  exact c
theorem neg_run (σ : Nat → Int) (e : Int) (he : e = 0 ∨ e = 6) : runs σ [⟨41, [z8, o1 45, inN 0], .tup [inN 1, i1 e]⟩] [] ⟨20, [inN 0], .tup [inN 1, i1 e]⟩ 100 = true := by
  rcases he with rfl | rfl <;> kernel_rfl
theorem val_z8W (σ : Nat → Int) : val1 σ z8 = W 0 := by kernel_rfl
/-- Neg. -/
theorem f_Neg (x : Int) (hx : fit x) : Gives Tryz.prog 20 [W x] (resV (-x) (fit (-x))) := by
  obtain ⟨h1, h2, h3⟩ := plusR_ok (b := decide ((0 : Int) < 0)) (c := !decide (x < 0)) (abs_lt fit_zero) (abs_lt hx)
  have c := f_comb 45 66 9 (.inr (.inl ⟨rfl, rfl, rfl⟩)) 0 x fit_zero hx _ h1 (f_minus _ _ _ _ (abs_lt fit_zero) (abs_lt hx))
  have e : sg x.natAbs (!decide (x < 0)) = -x := by
    have := sg_abs x
    unfold sg at *
    cases hd : decide (x < 0) <;> rw [hd] at this <;> simp at this ⊢ <;> omega
  rw [sg_abs, e, Int.zero_add] at h2 h3
  rw [resV_sum h2 h3] at c
  obtain ⟨r, e, he, hr⟩ := resV_eq (-x) (fit (-x))
  rw [hr] at c ⊢
  have k5 : RowGives Tryz.prog (sigN (lst [un x, un r])) ⟨41, [z8, o1 45, inN 0], .tup [inN 1, i1 e]⟩ := by
    refine ⟨rfl, ?_⟩
    simp only [List.map_cons, List.map_nil, valV_tup2, val_inN, val_i1, val_z8W]
    exact c
  have d := run_gives _ _ [] (one_row k5) no_test ⟨20, [inN 0], _⟩ 100 (fun σ => neg_run σ e he)
  simp only [List.map_cons, List.map_nil, valV_tup2, val_inN, val_i1] at d
  exact d
end Go.Proofs.YtaafimabgcnbaabGreatDoor
