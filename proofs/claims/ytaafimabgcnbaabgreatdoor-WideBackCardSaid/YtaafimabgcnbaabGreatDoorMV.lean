/-
  The digit of a long division: the arithmetic of the guess from three words by two.
  The guess of a digit: its loop.
  A window of a long division: the arithmetic of taking away and giving back.
  The guess of a digit, whole.
  A window of a long division: the loop that takes away.
  A window of a long division: taking away, whole.
  A window of a long division: the loop that gives back.
  A long division: the arithmetic of its places.
  A window of a long division: giving back, and one digit.
  A long division: its loop.
-/
import Derived.Test.YtaafimabgcnbaabGreatDoorMU
import Derived.Test.YtaafimabgcnbaabGreatDoorMS
import Derived.StillTailTactics
set_option linter.all false
namespace Go.Proofs.YtaafimabgcnbaabGreatDoor
open Go Go.Rx Go.RowKit Go.Big
/-- A guess q of the quotient of three words (u and d) by two (y1 and y0), and what it leaves of u. -/
structure GuessB (y1 y0 u d q r : Int) : Prop where
  eq : q * y1 + r = u
  ge : (u * 18446744073709551616 + d) / (y1 * 18446744073709551616 + y0) ≤ q
  lt : 0 ≤ q ∧ q < 18446744073709551616
  r : 0 ≤ r ∧ r < 18446744073709551616
section
variable {y1 y0 u d q r : Int}
theorem num_eqB (h : q * y1 + r = u) : u * 18446744073709551616 + d = q * (y1 * 18446744073709551616 + y0) + (18446744073709551616 * r + d - q * y0) := by
  rw [← h, Int.mul_add, Int.add_mul, ← Int.mul_assoc]
  omega
theorem GuessB.init (hy1 : 0 < y1 ∧ y1 < 18446744073709551616) (hy0 : 0 ≤ y0) (hd : 0 ≤ d ∧ d < 18446744073709551616) (hu : 0 ≤ u ∧ u < y1 * 18446744073709551616) : GuessB y1 y0 u d (u / y1) (u % y1) := by
  have e := Int.mul_ediv_add_emod u y1
  have r1 := Int.emod_nonneg u (show y1 ≠ 0 by omega)
  have r2 := Int.emod_lt_of_pos u (show 0 < y1 by omega)
  have q1 : 0 ≤ u / y1 := Int.ediv_nonneg hu.1 (by omega)
  refine ⟨by rw [Int.mul_comm]; exact e, ?_, ⟨q1, Int.ediv_lt_of_lt_mul (by omega) (by rw [Int.mul_comm]; exact hu.2)⟩, r1, by omega⟩
  refine Int.le_of_lt_add_one (Int.ediv_lt_of_lt_mul (by omega) ?_)
  have h : 0 ≤ (u / y1 + 1) * y0 := Int.mul_nonneg (by omega) hy0
  rw [Int.mul_add, ← Int.mul_assoc, Int.add_mul, Int.one_mul, Int.mul_comm _ y1]
  generalize y1 * (u / y1) = a at *
  generalize (u / y1 + 1) * y0 = b at *
  omega
theorem GuessB.stop (hi : GuessB y1 y0 u d q r) (hy1 : 0 < y1) (hy0 : 0 ≤ y0) (h : q * y0 ≤ 18446744073709551616 * r + d) : q = (u * 18446744073709551616 + d) / (y1 * 18446744073709551616 + y0) := by
  have e := num_eqB (y0 := y0) (d := d) hi.eq
  have h1 : q ≤ (u * 18446744073709551616 + d) / (y1 * 18446744073709551616 + y0) := by
    apply Int.le_ediv_of_mul_le (by omega)
    omega
  have := hi.ge
  omega
theorem GuessB.big (hi : GuessB y1 y0 u d q r) (hy1 : 0 < y1) (hy0 : 0 ≤ y0) (h : 18446744073709551616 * r + d < q * y0) : (u * 18446744073709551616 + d) / (y1 * 18446744073709551616 + y0) ≤ q - 1 := by
  have e := num_eqB (y0 := y0) (d := d) hi.eq
  have : (u * 18446744073709551616 + d) / (y1 * 18446744073709551616 + y0) < q := by
    apply Int.ediv_lt_of_lt_mul (by omega)
    omega
  omega
theorem GuessB.pos (hi : GuessB y1 y0 u d q r) (hd : 0 ≤ d) (h : 18446744073709551616 * r + d < q * y0) : 1 ≤ q := by
  have h1 := hi.lt
  have h2 := hi.r
  rcases Int.lt_or_le 0 q with h' | h'
  · omega
  · have : q = 0 := by omega
    subst this
    rw [Int.zero_mul] at h
    omega
theorem GuessB.go (hi : GuessB y1 y0 u d q r) (hy1 : 0 < y1) (hy0 : 0 ≤ y0) (hd : 0 ≤ d) (h : 18446744073709551616 * r + d < q * y0) (hx : r + y1 < 18446744073709551616) : GuessB y1 y0 u d (q - 1) (r + y1) := by
  have h1 := hi.big hy1 hy0 h
  have h2 := hi.pos hd h
  have h3 := hi.lt
  have h4 := hi.r
  refine ⟨?_, h1, by omega, by omega⟩
  rw [Int.sub_mul, ← hi.eq]
  omega
theorem GuessB.cut (hi : GuessB y1 y0 u d q r) (hy1 : 0 < y1) (hy0 : 0 ≤ y0 ∧ y0 < 18446744073709551616) (hd : 0 ≤ d) (h : 18446744073709551616 * r + d < q * y0) (hx : 18446744073709551616 ≤ r + y1) :
    q - 1 = (u * 18446744073709551616 + d) / (y1 * 18446744073709551616 + y0) := by
  have h1 := hi.big hy1 hy0.1 h
  have h2 := hi.pos hd h
  have h3 := hi.lt
  have e : (q - 1) * y1 + (r + y1) = u := by rw [Int.sub_mul, ← hi.eq]; omega
  have e' := num_eqB (y0 := y0) (d := d) e
  have hb : (q - 1) * y0 ≤ 18446744073709551616 * 18446744073709551615 := Int.mul_le_mul (by omega) (by omega) hy0.1 (by decide)
  have : q - 1 ≤ (u * 18446744073709551616 + d) / (y1 * 18446744073709551616 + y0) := by
    apply Int.le_ediv_of_mul_le (by omega)
    omega
  omega
end
/-- The guess is not below the true digit. -/
theorem digit_le {N D T V M NL DL : Int} (hM : 0 < M) (hV : 0 < V) (hT : 0 ≤ T) (hN : N = T * M + NL) (hNL : NL < M) (hD : D = V * M + DL) (hDL : 0 ≤ DL) : N / D ≤ T / V := by
  have hVM : 0 < V * M := Int.mul_pos hV hM
  apply Int.le_of_lt_add_one
  apply Int.ediv_lt_of_lt_mul (by omega)
  have h1 : T + 1 ≤ (T / V + 1) * V := by
    have := Int.mul_ediv_add_emod T V
    have := Int.emod_lt_of_pos T hV
    rw [Int.add_mul, Int.one_mul, Int.mul_comm]
    omega
  have h2 : (T + 1) * M ≤ (T / V + 1) * V * M := Int.mul_le_mul_of_nonneg_right h1 (by omega)
  rw [Int.add_mul, Int.one_mul, Int.mul_assoc] at h2
  have hq : 0 ≤ T / V := Int.ediv_nonneg hT (by omega)
  have h3 : 0 ≤ (T / V + 1) * DL := Int.mul_nonneg (by omega) hDL
  rw [hD, Int.mul_add]
  omega
/-- .. and at most 1 above it. -/
theorem digit_ge {N D T V M NL DL : Int} (hM : 0 < M) (hV : 18446744073709551616 ≤ V) (hT : 0 ≤ T) (hq : T / V < 18446744073709551616) (hN : N = T * M + NL) (hNL : 0 ≤ NL) (hD : D = V * M + DL) (hDL : 0 ≤ DL ∧ DL < M) : T / V ≤ N / D + 1 := by
  have hVM : 0 < V * M := Int.mul_pos (by omega) hM
  have hq0 : 0 ≤ T / V := Int.ediv_nonneg hT (by omega)
  have h1 : T / V - 1 ≤ N / D := by
    apply Int.le_ediv_of_mul_le (by omega)
    have h2 : T / V * V ≤ T := Int.ediv_mul_le T (by omega)
    have h3 : T / V * V * M ≤ T * M := Int.mul_le_mul_of_nonneg_right h2 (by omega)
    have h4 : (T / V - 1) * DL ≤ V * M := by
      rcases Int.lt_or_le 0 (T / V) with h | h
      · exact Int.mul_le_mul (by omega) (by omega) hDL.1 (by omega)
      · have : (T / V - 1) * DL ≤ 0 := Int.mul_nonpos_of_nonpos_of_nonneg (by omega) hDL.1
        omega
    rw [hD, Int.mul_add, Int.sub_mul (T / V) 1 (V * M), Int.one_mul, ← Int.mul_assoc]
    omega
  omega
end Go.Proofs.YtaafimabgcnbaabGreatDoor
namespace Go.Proofs.YtaafimabgcnbaabGreatDoor
open Go Go.Rx Go.RowKit Go.Big
attribute [local instance] noAv
noncomputable def guessBL : Code := ((Tryz.f109.body.bind (findB 0)).getD .skip)
set_option maxHeartbeats 4000000 in
set_option maxRecDepth 100000 in
theorem guess_loop {y1 y0 u d q0 r0 : Int} (hy1 : 0 < y1 ∧ y1 < 18446744073709551616) (hy0 : 0 ≤ y0 ∧ y0 < 18446744073709551616) (hd : 0 ≤ d ∧ d < 18446744073709551616) (h0 : GuessB y1 y0 u d q0 r0) {tq : Int} (htq : tq = (u * 18446744073709551616 + d) / (y1 * 18446744073709551616 + y0))
    {w : World} (c0 c1 c2 c3 c5 c8 c9 c16 c17 c18 c19 c20 c21 c22 c23 c24 c25 c26 c27 c28 c29 c30 c31 c32 c33 c34 c35 c36 c37 c38 c39 c40 c41 c42 c43 c44 c45 c46 c47 c48 c49 c50 c51 u4 u13 u14 u15 u52 u53 u54 u55 u56 u57 u58 u59 u60 u61 u62 u63 u64 u65 u66 u67 u68 u69 u70 u71 u72 u73 u74 u75 u76 u77 u78 u79 u80 u81 u82 : Value) (Q : Exit → Act → World → Prop)
    (hQ : ∀ (u11 u12 u13 u14 u15 u52 u53 u54 u55 u56 u57 u58 u59 u60 u61 u62 u63 u64 u65 u66 u67 u68 u69 u70 u71 u72 u73 u74 u75 u76 u77 u78 u79 u80 u81 u82 : Value), Q .ret ⟨(List.toArray (c0 :: c1 :: c2 :: c3 :: (.int .u64 tq) :: c5 :: (.int .u64 y1) :: (.int .u64 y0) :: c8 :: c9 :: (.int .u64 d) :: u11 :: u12 :: u13 :: u14 :: u15 :: c16 :: c17 :: c18 :: c19 :: c20 :: c21 :: c22 :: c23 :: c24 :: c25 :: c26 :: c27 :: c28 :: c29 :: c30 :: c31 :: c32 :: c33 :: c34 :: c35 :: c36 :: c37 :: c38 :: c39 :: c40 :: c41 :: c42 :: c43 :: c44 :: c45 :: c46 :: c47 :: c48 :: c49 :: c50 :: c51 :: u52 :: u53 :: u54 :: u55 :: u56 :: u57 :: u58 :: u59 :: u60 :: u61 :: u62 :: u63 :: u64 :: u65 :: u66 :: u67 :: u68 :: u69 :: u70 :: u71 :: u72 :: u73 :: u74 :: u75 :: u76 :: u77 :: u78 :: u79 :: u80 :: u81 :: u82 :: [])), []⟩ w) :
    Code.wp Tryz.prog guessBL Q ⟨(List.toArray (c0 :: c1 :: c2 :: c3 :: u4 :: c5 :: (.int .u64 y1) :: (.int .u64 y0) :: c8 :: c9 :: (.int .u64 d) :: (.int .u64 q0) :: (.int .u64 r0) :: u13 :: u14 :: u15 :: c16 :: c17 :: c18 :: c19 :: c20 :: c21 :: c22 :: c23 :: c24 :: c25 :: c26 :: c27 :: c28 :: c29 :: c30 :: c31 :: c32 :: c33 :: c34 :: c35 :: c36 :: c37 :: c38 :: c39 :: c40 :: c41 :: c42 :: c43 :: c44 :: c45 :: c46 :: c47 :: c48 :: c49 :: c50 :: c51 :: u52 :: u53 :: u54 :: u55 :: u56 :: u57 :: u58 :: u59 :: u60 :: u61 :: u62 :: u63 :: u64 :: u65 :: u66 :: u67 :: u68 :: u69 :: u70 :: u71 :: u72 :: u73 :: u74 :: u75 :: u76 :: u77 :: u78 :: u79 :: u80 :: u81 :: u82 :: [])), []⟩ w := by
  conv => arg 2; whnf
  go_loop [11, 12] (fun a b => ∃ q r : Int, a = .int .u64 q ∧ b = .int .u64 r ∧ GuessB y1 y0 u d q r) (fun a b => (intOf a).toNat)
  case atStart => exact ⟨q0, r0, rfl, rfl, h0⟩
  case round =>
    obtain ⟨q, r, rfl, rfl, hi⟩ := hrel
    have hq := hi.lt
    have hr := hi.r
    have M := fun w => mul64_c (x := q) (y := y0) hq hy0 w
    have hstop := hi.stop hy1.1 hy0.1
    have hgo := hi.go hy1.1 hy0.1 hd.1
    have hcut := hi.cut hy1.1 hy0 hd.1
    have hpos := hi.pos hd.1
    rw [← htq] at hstop hcut
    have hadd := fun w => run_add r y1 0 hr.1 (Int.le_of_lt hy1.1) (by decide) (by decide) w
    simp only [Int.add_zero] at hadd
    have e4 : 1 ≤ q → IntKind.u64.wrap (q - 1) = q - 1 := fun h => by rw [IntKind.wrap_u64]; omega
    have hsum1 : r + y1 < 18446744073709551616 → (r + y1) % 18446744073709551616 = r + y1 ∧ (r + y1) / 18446744073709551616 = 0 := fun h => by omega
    have hsum2 : 18446744073709551616 ≤ r + y1 → (r + y1) / 18446744073709551616 = 1 := fun h => by omega
    obtain ⟨H, hH⟩ : ∃ H, H = q * y0 / 18446744073709551616 := ⟨_, rfl⟩
    obtain ⟨L, hL⟩ : ∃ L, L = q * y0 % 18446744073709551616 := ⟨_, rfl⟩
    have hHL : q * y0 = 18446744073709551616 * H + L := by rw [hH, hL]; omega
    have hLb : 0 ≤ L ∧ L < 18446744073709551616 := by rw [hL]; omega
    rw [← hH, ← hL] at M
    rw [hHL] at hstop hgo hcut hpos
    clear hH hL hHL hi h0 htq
    by_cases hs : 18446744073709551616 * H + L ≤ 18446744073709551616 * r + d
    · have e := hstop hs
      clear hstop hgo hcut hpos hadd hsum1 hsum2 e4
      subst e
      by_cases hlt : H < r
      · clear hs
        go_wp2_with fail
        with_reducible refine (M _).mono ?_
        rintro e w1 ⟨rfl, rfl⟩
        go_wp2
        exact hQ _ _ _ _ _ _ _ _ _ _ _ _ _ _ _ _ _ _ _ _ _ _ _ _ _ _ _ _ _ _ _ _ _ _ _ _
      · have heq : H = r := by omega
        subst heq
        have hle : L ≤ d := by omega
        clear hs hlt
        go_wp2_with fail
        with_reducible refine (M _).mono ?_
        rintro e w1 ⟨rfl, rfl⟩
        go_wp2
        exact hQ _ _ _ _ _ _ _ _ _ _ _ _ _ _ _ _ _ _ _ _ _ _ _ _ _ _ _ _ _ _ _ _ _ _ _ _
    · have hs' : 18446744073709551616 * r + d < 18446744073709551616 * H + L := by omega
      have hq1 := hpos hs'
      have hg := hgo hs'
      have hc := hcut hs'
      have e5 := e4 hq1
      have hrH : r ≤ H := by omega
      clear hstop hgo hcut hpos e4
      by_cases hx : r + y1 < 18446744073709551616
      · have hg1 := hg hx
        obtain ⟨s1, s2⟩ := hsum1 hx
        rw [s1, s2] at hadd
        clear hsum1 hsum2 hg hc s1 s2
        by_cases hlt : r < H
        · clear hs hs'
          go_wp2_with fail
          with_reducible refine (M _).mono ?_
          rintro e w1 ⟨rfl, rfl⟩
          go_wp2
          go_round
          case rel => exact ⟨q - 1, r + y1, rfl, rfl, hg1⟩
          case measure => simp [intOf]; omega
        · obtain rfl : H = r := by omega
          have hle : d < L := by omega
          clear hs hs' hlt hrH
          go_wp2_with fail
          with_reducible refine (M _).mono ?_
          rintro e w1 ⟨rfl, rfl⟩
          go_wp2
          go_round
          case rel => exact ⟨q - 1, H + y1, rfl, rfl, hg1⟩
          case measure => simp [intOf]; omega
      · have e := hc (by omega)
        have s2 := hsum2 (by omega)
        rw [s2] at hadd
        have e6 := e5.trans e
        generalize (r + y1) % 18446744073709551616 = sm at *
        clear hsum1 hsum2 hg hc e s2 hx e5
        by_cases hlt : r < H
        · clear hs hs'
          go_wp2_with fail
          with_reducible refine (M _).mono ?_
          rintro e w1 ⟨rfl, rfl⟩
          go_wp2
          exact hQ _ _ _ _ _ _ _ _ _ _ _ _ _ _ _ _ _ _ _ _ _ _ _ _ _ _ _ _ _ _ _ _ _ _ _ _
        · obtain rfl : H = r := by omega
          have hle : d < L := by omega
          clear hs hs' hlt hrH
          go_wp2_with fail
          with_reducible refine (M _).mono ?_
          rintro e w1 ⟨rfl, rfl⟩
          go_wp2
          exact hQ _ _ _ _ _ _ _ _ _ _ _ _ _ _ _ _ _ _ _ _ _ _ _ _ _ _ _ _ _ _ _ _ _ _ _ _
end Go.Proofs.YtaafimabgcnbaabGreatDoor
namespace Go.Proofs.YtaafimabgcnbaabGreatDoor
open Go Go.Rx Go.RowKit Go.Big
/-- digit times the lowest k words of ds is taken from rs (at place o), up to what is still to be handed on. -/
structure AwayK (dg : Int) (ds : List Int) (o : Nat) (rs0 : List Int) (k : Nat) (e b : Int) (rs : List Int) : Prop where
  len : rs.length = 9
  good : wgood rs
  hi : ∀ j, o + k ≤ j → rs.getD j 0 = rs0.getD j 0
  sum : wval rs + dg * wval (ds.take k) * pw (2 * o) = wval rs0 + (e + b) * pw (2 * (o + k))
  e : 0 ≤ e ∧ e < 18446744073709551616
  b : b = 0 ∨ b = 1
theorem take_alg {R R0 W p pk po e b y y' x dg e' b' : Int} (hp : p = pk * po) (hs : R + dg * W * po = R0 + (e + b) * p) (h : y' - y + e + b + dg * x = (e' + b') * 18446744073709551616) :
    R + (y' - y) * p + dg * (W + x * pk) * po = R0 + (e' + b') * (18446744073709551616 * p) := by
  rw [← Int.mul_assoc (e' + b'), ← h, Int.mul_add dg, Int.add_mul (dg * W), hp]
  rw [hp] at hs
  have e1 : dg * (x * pk) * po = dg * x * (pk * po) := by simp only [Int.mul_assoc]
  rw [e1]
  generalize pk * po = q at *
  simp only [Int.add_mul, Int.sub_mul] at hs ⊢
  omega
theorem getD_set_ge {l : List Int} {i j : Nat} (x : Int) (h : i + 1 ≤ j) : (l.set i x).getD j 0 = l.getD j 0 := by
  rw [List.getD_eq_getElem?_getD, List.getD_eq_getElem?_getD, List.getElem?_set_ne (by omega)]
theorem sub_flag {y p b : Int} (hy : 0 ≤ y ∧ y < 18446744073709551616) (hp : 0 ≤ p ∧ p < 18446744073709551616) (hb : b = 0 ∨ b = 1) :
    ((if y < p + b then 1 else 0 : Int) = 0 ∨ (if y < p + b then 1 else 0 : Int) = 1) ∧ (y - p - b) % 18446744073709551616 - y = (if y < p + b then 1 else 0 : Int) * 18446744073709551616 - p - b := by
  by_cases h : y < p + b
  · rw [if_pos h]; exact ⟨.inr rfl, by omega⟩
  · rw [if_neg h]; exact ⟨.inl rfl, by omega⟩
theorem AwayK.step {dg : Int} {ds : List Int} {o : Nat} {rs0 rs : List Int} {k : Nat} {e b : Int} (h : AwayK dg ds o rs0 k e b rs) (hk : k < ds.length) (hok : o + k < 9)
    {H L : Int} (hHL : ds.getD k 0 * dg = 18446744073709551616 * H + L) (hL : 0 ≤ L ∧ L < 18446744073709551616) (hH : 0 ≤ H ∧ H ≤ 18446744073709551614) :
    AwayK dg ds o rs0 (k + 1) (H + (L + e) / 18446744073709551616) (if rs.getD (o + k) 0 < (L + e) % 18446744073709551616 + b then 1 else 0) (rs.set (o + k) ((rs.getD (o + k) 0 - (L + e) % 18446744073709551616 - b) % 18446744073709551616)) := by
  have he := h.e
  have hy := wgood_get h.good (o + k)
  obtain ⟨f1, f2⟩ := sub_flag (p := (L + e) % 18446744073709551616) hy (by omega) h.b
  refine ⟨by simpa using h.len, wgood_set h.good _ (by omega), fun j hj => ?_, ?_, by omega, f1⟩
  · rw [getD_set_ge _ (by omega)]; exact h.hi j (by omega)
  · rw [wval_set _ _ _ (by rw [h.len]; exact hok), wval_take_succ _ _ hk, show 2 * (o + (k + 1)) = 2 + 2 * (o + k) by omega, pw_add 2, show pw 2 = 18446744073709551616 by decide]
    refine take_alg (by rw [show 2 * (o + k) = 2 * k + 2 * o by omega, pw_add]) h.sum ?_
    rw [f2, Int.mul_comm dg, hHL]
    generalize (if rs.getD (o + k) 0 < (L + e) % 18446744073709551616 + b then 1 else 0 : Int) = b'
    omega
/-- The last word gives what was handed on. -/
theorem AwayK.last {dg : Int} {ds : List Int} {o : Nat} {rs0 rs : List Int} {k : Nat} {e b : Int} (h : AwayK dg ds o rs0 k e b rs) (hok : o + k < 9) :
    ∃ rs', rs' = rs.set (o + k) ((rs.getD (o + k) 0 - e - b) % 18446744073709551616) ∧ rs'.length = 9 ∧ wgood rs' ∧ (∀ j, o + k + 1 ≤ j → rs'.getD j 0 = rs0.getD j 0) ∧
      ((if rs.getD (o + k) 0 < e + b then 1 else 0 : Int) = 0 ∨ (if rs.getD (o + k) 0 < e + b then 1 else 0 : Int) = 1) ∧
      wval rs' + dg * wval (ds.take k) * pw (2 * o) = wval rs0 + (if rs.getD (o + k) 0 < e + b then 1 else 0 : Int) * pw (2 * (o + k + 1)) := by
  have hy := wgood_get h.good (o + k)
  obtain ⟨f1, f2⟩ := sub_flag hy h.e h.b
  refine ⟨_, rfl, by simpa using h.len, wgood_set h.good _ (by omega), fun j hj => by rw [getD_set_ge _ (by omega)]; exact h.hi j (by omega), f1, ?_⟩
  have hs := h.sum
  rw [wval_set _ _ _ (by rw [h.len]; exact hok), f2, show 2 * (o + k + 1) = 2 + 2 * (o + k) by omega, pw_add 2, show pw 2 = 18446744073709551616 by decide, ← Int.mul_assoc]
  generalize (if rs.getD (o + k) 0 < e + b then 1 else 0 : Int) = b'
  generalize pw (2 * (o + k)) = p at *
  simp only [Int.sub_mul, Int.add_mul] at hs ⊢
  omega
/-- The lowest k words of ds are added to rs (at place o). -/
structure GiveK (ds : List Int) (o : Nat) (rs0 : List Int) (k : Nat) (c : Int) (rs : List Int) : Prop where
  len : rs.length = 9
  good : wgood rs
  hi : ∀ j, o + k ≤ j → rs.getD j 0 = rs0.getD j 0
  sum : wval rs + c * pw (2 * (o + k)) = wval rs0 + wval (ds.take k) * pw (2 * o)
  c : c = 0 ∨ c = 1
theorem give_alg {R R0 W p pk po c y y' x c' : Int} (hp : p = pk * po) (hs : R + c * p = R0 + W * po) (h : y + x + c = y' + c' * 18446744073709551616) :
    R + (y' - y) * p + c' * (18446744073709551616 * p) = R0 + (W + x * pk) * po := by
  have e1 : y' = y + x + c - c' * 18446744073709551616 := by omega
  rw [e1, Int.add_mul W, Int.mul_assoc x, ← hp, ← Int.mul_assoc c']
  simp only [Int.sub_mul, Int.add_mul]
  omega
theorem GiveK.step {ds : List Int} {o : Nat} {rs0 rs : List Int} {k : Nat} {c : Int} (h : GiveK ds o rs0 k c rs) (hk : k < ds.length) (hok : o + k < 9) (hds : wgood ds) :
    GiveK ds o rs0 (k + 1) ((rs.getD (o + k) 0 + ds.getD k 0 + c) / 18446744073709551616) (rs.set (o + k) ((rs.getD (o + k) 0 + ds.getD k 0 + c) % 18446744073709551616)) := by
  have hy := wgood_get h.good (o + k)
  have hx := wgood_get hds k
  have hc := h.c
  refine ⟨by simpa using h.len, wgood_set h.good _ (by omega), fun j hj => by rw [getD_set_ge _ (by omega)]; exact h.hi j (by omega), ?_, by omega⟩
  rw [wval_set _ _ _ (by rw [h.len]; exact hok), wval_take_succ _ _ hk, show 2 * (o + (k + 1)) = 2 + 2 * (o + k) by omega, pw_add 2, show pw 2 = 18446744073709551616 by decide]
  refine give_alg (by rw [show 2 * (o + k) = 2 * k + 2 * o by omega, pw_add]) h.sum ?_
  omega
theorem GiveK.last {ds : List Int} {o : Nat} {rs0 rs : List Int} {k : Nat} {c : Int} (h : GiveK ds o rs0 k c rs) (hok : o + k < 9) :
    ∃ rs' c', rs' = rs.set (o + k) ((rs.getD (o + k) 0 + c) % 18446744073709551616) ∧ rs'.length = 9 ∧ wgood rs' ∧ (∀ j, o + k + 1 ≤ j → rs'.getD j 0 = rs0.getD j 0) ∧ (c' = 0 ∨ c' = 1) ∧
      wval rs' + c' * pw (2 * (o + k + 1)) = wval rs0 + wval (ds.take k) * pw (2 * o) := by
  have hy := wgood_get h.good (o + k)
  have hc := h.c
  refine ⟨_, (rs.getD (o + k) 0 + c) / 18446744073709551616, rfl, by simpa using h.len, wgood_set h.good _ (by omega), fun j hj => by rw [getD_set_ge _ (by omega)]; exact h.hi j (by omega), by omega, ?_⟩
  have hs := h.sum
  rw [wval_set _ _ _ (by rw [h.len]; exact hok), show 2 * (o + k + 1) = 2 + 2 * (o + k) by omega, pw_add 2, show pw 2 = 18446744073709551616 by decide]
  have e1 : (rs.getD (o + k) 0 + c) % 18446744073709551616 - rs.getD (o + k) 0 = c - (rs.getD (o + k) 0 + c) / 18446744073709551616 * 18446744073709551616 := by omega
  rw [e1, ← Int.mul_assoc]
  generalize (rs.getD (o + k) 0 + c) / 18446744073709551616 = c'
  generalize pw (2 * (o + k)) = p at *
  simp only [Int.sub_mul]
  omega
/-- Nothing beyond place k. -/
theorem wval_below {rs : List Int} (hg : wgood rs) {k : Nat} (h : ∀ j, k ≤ j → rs.getD j 0 = 0) : wval rs = wval (rs.take k) := by
  have h1 := wval_split rs k
  have h2 : wval (rs.drop k) = 0 := (wval_zero_iff fun x hx => hg x (List.mem_of_mem_drop hx)).1 fun x hx => by
    obtain ⟨i, hi, rfl⟩ := List.getElem_of_mem hx
    have := h (k + i) (by omega)
    rw [List.getElem_drop]
    rw [List.length_drop] at hi
    rw [List.getD_eq_getElem?_getD, List.getElem?_eq_getElem (by omega)] at this
    exact this
  rw [h1, h2, Int.mul_zero, Int.add_zero]
theorem wval_take_lt {rs : List Int} (hg : wgood rs) (k : Nat) : 0 ≤ wval (rs.take k) ∧ wval (rs.take k) < pw (2 * k) := by
  have h := wval_lt (wgood_take hg k)
  refine ⟨h.1, Int.lt_of_lt_of_le h.2 (pw_mono ?_)⟩
  rw [List.length_take]; omega
/-- The true digit is at most 1 below dg. -/
structure DigitNear (N D dg : Int) : Prop where
  lt : 0 ≤ dg ∧ dg < 18446744073709551616
  ge : N / D ≤ dg
  le : dg ≤ N / D + 1
theorem near_of {N D V T M NL DL u d y1 y0 : Int} (hM : 0 < M) (hN : N = T * M + NL) (hNL : 0 ≤ NL ∧ NL < M) (hD : D = V * M + DL) (hDL : 0 ≤ DL ∧ DL < M)
    (hT : T = u * 18446744073709551616 + d) (hV : V = y1 * 18446744073709551616 + y0) (hy1 : 9223372036854775808 ≤ y1) (hy0 : 0 ≤ y0 ∧ y0 < 18446744073709551616) (hd : 0 ≤ d ∧ d < 18446744073709551616) (hu0 : 0 ≤ u) (hu : u < y1 * 18446744073709551616) :
    DigitNear N D ((u * 18446744073709551616 + d) / (y1 * 18446744073709551616 + y0)) := by
  rw [← hT, ← hV]
  have hV0 : 18446744073709551616 ≤ V := by omega
  have hq : T / V < 18446744073709551616 := by
    apply Int.ediv_lt_of_lt_mul (by omega)
    rw [hV, Int.mul_add, Int.mul_comm _ (y1 * _)]
    omega
  exact ⟨⟨Int.ediv_nonneg (by omega) (by omega), hq⟩, digit_le hM (by omega) (by omega) hN hNL.2 hD hDL.1, digit_ge hM hV0 (by omega) hq hN hNL.1 hD hDL⟩
theorem near_all {N D V M NL DL h T y1 y0 : Int} (hM : 0 < M) (hN : N = T * M + NL) (hNL : 0 ≤ NL) (hT : h * 340282366920938463463374607431768211456 ≤ T) (hD : D = V * M + DL) (hDL : 0 ≤ DL ∧ DL < M)
    (hV : V = y1 * 18446744073709551616 + y0) (hy1 : 9223372036854775808 ≤ y1) (hy0 : 0 ≤ y0 ∧ y0 < 18446744073709551616) (hh : y1 ≤ h) (hlt : N < D * 18446744073709551616) : DigitNear N D 18446744073709551615 := by
  have hVM : 0 < V * M := Int.mul_pos (by omega) hM
  refine ⟨by decide, ?_, ?_⟩
  · have : N / D < 18446744073709551616 := Int.ediv_lt_of_lt_mul (by omega) (by rw [Int.mul_comm]; exact hlt)
    omega
  · have h1 : 18446744073709551614 ≤ N / D := by
      apply Int.le_ediv_of_mul_le (by omega)
      have h2 : D ≤ (V + 1) * M := by rw [hD, Int.add_mul, Int.one_mul]; omega
      have h3 : 18446744073709551614 * (V + 1) ≤ T := by omega
      have h4 : 18446744073709551614 * (V + 1) * M ≤ T * M := Int.mul_le_mul_of_nonneg_right h3 (by omega)
      rw [Int.mul_assoc] at h4
      omega
    omega
/-- A digit that is at most 1 too large, taken away, and made up for. -/
theorem near_take {N D P N1 b dg : Int} (h : DigitNear N D dg) (hD : 0 < D) (hN1 : 0 ≤ N1 ∧ N1 < P) (hb : b = 0 ∨ b = 1) (hs : N1 + dg * D = N + b * P) : (b = 0 → dg = N / D ∧ N1 = N % D) ∧ (b = 1 → dg - 1 = N / D ∧ ∀ N2 c : Int, 0 ≤ N2 ∧ N2 < P → (c = 0 ∨ c = 1) → N2 + c * P = N1 + D → N2 = N % D) := by
  have h1 := h.ge
  have h2 := h.le
  have m1 := Int.mul_ediv_add_emod N D
  have m2 := Int.emod_nonneg N (show D ≠ 0 by omega)
  have m3 := Int.emod_lt_of_pos N hD
  have key : dg = N / D ∨ dg = N / D + 1 := by omega
  rw [Int.mul_comm] at m1
  rcases hb with rfl | rfl
  · refine ⟨fun _ => ?_, fun h => absurd h (by decide)⟩
    rcases key with rfl | rfl
    · refine ⟨rfl, ?_⟩
      generalize N / D * D = z at *
      omega
    · rw [Int.add_mul] at hs
      generalize N / D * D = z at *
      omega
  · refine ⟨fun h => absurd h (by decide), fun _ => ?_⟩
    rcases key with rfl | rfl
    · generalize N / D * D = z at *
      omega
    · refine ⟨by omega, fun N2 c h2 hc he => ?_⟩
      rw [Int.add_mul] at hs
      generalize N / D * D = z at *
      rcases hc with rfl | rfl <;> omega
/-- The numbers that the three highest words of the window and the two highest ones of the divisor leave out. -/
theorem rows_parts {rs : List Int} {ds : List Int} (hr : wgood rs) (hd : wgood ds) {o s : Nat} (hrl : rs.length = 9) (hos : o + (s + 2) < 9) (hsl : s + 2 ≤ ds.length) (hz : ∀ j, o + (s + 2) + 1 ≤ j → rs.getD j 0 = 0) :
    ∃ NL DL, (0 ≤ NL ∧ NL < pw (2 * (o + s))) ∧ (0 ≤ DL ∧ DL < pw (2 * (o + s))) ∧
      wval rs = ((rs.getD (o + (s + 2)) 0 * 18446744073709551616 + rs.getD (o + (s + 1)) 0) * 18446744073709551616 + rs.getD (o + s) 0) * pw (2 * (o + s)) + NL ∧
      wval (ds.take (s + 2)) * pw (2 * o) = (ds.getD (s + 1) 0 * 18446744073709551616 + ds.getD s 0) * pw (2 * (o + s)) + DL := by
  have hp := pw_pos (2 * o)
  have hl := wval_take_lt hd s
  refine ⟨wval (rs.take (o + s)), wval (ds.take s) * pw (2 * o), wval_take_lt hr _, ⟨Int.mul_nonneg hl.1 (by omega), ?_⟩, ?_, ?_⟩
  · rw [show 2 * (o + s) = 2 * s + 2 * o by omega, pw_add]
    exact Int.mul_lt_mul_of_pos_right hl.2 hp
  · rw [wval_below hr hz, wval_take_succ _ _ (by omega), show o + (s + 2) = o + (s + 1) + 1 by omega, wval_take_succ _ _ (by omega), show o + (s + 1) = o + s + 1 by omega, wval_take_succ _ _ (by omega)]
    rw [show 2 * (o + s + 1 + 1) = 2 + (2 + 2 * (o + s)) by omega, show 2 * (o + s + 1) = 2 + 2 * (o + s) by omega, pw_add 2 (2 + _), pw_add 2, show pw 2 = 18446744073709551616 by decide]
    generalize pw (2 * (o + s)) = p
    simp only [Int.add_mul, Int.mul_assoc]
    omega
  · rw [wval_take_succ _ _ (by omega), wval_take_succ _ _ (by omega), show 2 * (s + 1) = 2 + 2 * s by omega, show 2 * (o + s) = 2 * s + 2 * o by omega, pw_add 2, pw_add, show pw 2 = 18446744073709551616 by decide]
    generalize pw (2 * s) = p
    generalize pw (2 * o) = q
    simp only [Int.add_mul, Int.mul_assoc]
    omega
end Go.Proofs.YtaafimabgcnbaabGreatDoor
namespace Go.Proofs.YtaafimabgcnbaabGreatDoor
open Go Go.Rx Go.RowKit Go.Big
attribute [local instance] noAv
/-- What the guess of a digit hands back. -/
def GuessR (top next high middle low : Int) (r : Value) : Prop := ∃ dg, r = .int .u64 dg ∧ (top ≤ high → dg = 18446744073709551615) ∧ (high < top → dg = ((high * 18446744073709551616 + middle) * 18446744073709551616 + low) / (top * 18446744073709551616 + next))
set_option maxHeartbeats 4000000 in
set_option maxRecDepth 100000 in
theorem guess_c {w : World} {R V a S n1 n2 c0 c1 : Nat} (hS1 : S = n1 + 1) (hS2 : S = n2 + 2) (hS : S ≤ 8) {top next high middle low : Int}
    (htop : 0 < top ∧ top < 18446744073709551616) (hnext : 0 ≤ next ∧ next < 18446744073709551616) (hhigh : 0 ≤ high ∧ high < 18446744073709551616) (hmiddle : 0 ≤ middle ∧ middle < 18446744073709551616) (hlow : 0 ≤ low ∧ low < 18446744073709551616)
    (k1 : w.cell? ⟨V, n1, none⟩ = some (.int .u64 top)) (k2 : w.cell? ⟨V, n2, none⟩ = some (.int .u64 next))
    (k3 : w.cell? ⟨R, a + S, none⟩ = some (.int .u64 high)) (k4 : w.cell? ⟨R, a + n1, none⟩ = some (.int .u64 middle)) (k5 : w.cell? ⟨R, a + n2, none⟩ = some (.int .u64 low)) :
    Calls Tryz.prog 109 #[.slice (some ⟨R, a, none⟩) (S + 1) c0, .slice (some ⟨V, 0, none⟩) S c1] w (Gets (fun _ r => GuessR top next high middle low r) w) := by
  have e1 : IntKind.i64.wrap ((S : Int) - 1) = (n1 : Int) := by rw [IntKind.wrap_i64]; omega
  have e2 : IntKind.i64.wrap ((S : Int) - 2) = (n2 : Int) := by rw [IntKind.wrap_i64]; omega
  have i0 : (0 : Int) ≤ (S : Int) := by omega
  have i1 : (0 : Int) ≤ (n1 : Int) := by omega
  have i2 : (0 : Int) ≤ (n2 : Int) := by omega
  have j0 : (S : Int) < ((S + 1 : Nat) : Int) := by omega
  have j1 : (n1 : Int) < (S : Int) := by omega
  have j2 : (n2 : Int) < (S : Int) := by omega
  have j3 : (n1 : Int) < ((S + 1 : Nat) : Int) := by omega
  have j4 : (n2 : Int) < ((S + 1 : Nat) : Int) := by omega
  clear hS1 hS2
  go_enter Tryz.func109, Tryz.ntmps109
  go_wp2
  go_quiet (skip)
  go_wp2
  go_quiet (skip)
  rcases Int.lt_or_le high top with h | h
  · have hi := GuessB.init (y1 := top) (y0 := next) (u := high * 18446744073709551616 + middle) (d := low) htop hnext.1 hlow ⟨by omega, by omega⟩
    have D := fun w => div64_g (hi := high) (lo := middle) (y := top) ⟨hhigh.1, h⟩ hmiddle htop.2 w
    obtain ⟨tq, htq⟩ : ∃ tq, tq = ((high * 18446744073709551616 + middle) * 18446744073709551616 + low) / (top * 18446744073709551616 + next) := ⟨_, rfl⟩
    have hres : GuessR top next high middle low (.int .u64 tq) := ⟨tq, rfl, fun h' => absurd h (by omega), fun _ => htq⟩
    have hge : ¬ top ≤ high := by omega
    clear k1 k2 k3 k4 k5 e1 e2 i0 i1 i2 j0 j1 j2 j3 j4
    generalize (high * 18446744073709551616 + middle) / top = q0 at *
    generalize (high * 18446744073709551616 + middle) % top = r0 at *
    go_wp2_with fail
    with_reducible refine (D _).mono ?_
    rintro e w1 ⟨v, rfl, rfl, hb⟩
    have hbel : Below w.heap.size w w1 := by first | exact (below_drewN (below_drewN (Below.refl _ _))).trans hb | exact (below_drewN (Below.refl _ _)).trans hb | exact hb
    clear D hb
    go_wp2
    refine guess_loop htop hnext hlow hi htq _ _ _ _ _ _ _ _ _ _ _ _ _ _ _ _ _ _ _ _ _ _ _ _ _ _ _ _ _ _ _ _ _ _ _ _ _ _ _ _ _ _ _ _ _ _ _ _ _ _ _ _ _ _ _ _ _ _ _ _ _ _ _ _ _ _ _ _ _ _ _ _ _ _ _ _ _ _ _ (fun u11 u12 u13 u14 u15 u52 u53 u54 u55 u56 u57 u58 u59 u60 u61 u62 u63 u64 u65 u66 u67 u68 u69 u70 u71 u72 u73 u74 u75 u76 u77 u78 u79 u80 u81 u82 => ?_)
    go_ret
    exact ⟨_, rfl, hres, hbel⟩
  · have hres : GuessR top next high middle low (.int .u64 18446744073709551615) := ⟨_, rfl, fun _ => rfl, fun h' => absurd h (by omega)⟩
    clear k1 k2 k3 k4 k5 e1 e2 i0 i1 i2 j0 j1 j2 j3 j4
    go_wp2
    go_ret
    refine ⟨_, rfl, hres, ?_⟩
    first | exact below_drewN (below_drewN (Below.refl _ _)) | exact below_drewN (Below.refl _ _) | exact Below.refl _ _
end Go.Proofs.YtaafimabgcnbaabGreatDoor
namespace Go.Proofs.YtaafimabgcnbaabGreatDoor
open Go Go.Rx Go.RowKit Go.Big
attribute [local instance] noAv
/-- Block R holds nine words; below it all is as before. -/
structure Cells9 (R : Nat) (rs : List Int) (w w' : World) : Prop where
  bel : Below R w w'
  cells : w'.heap[R]? = some (.cells (rs.map (Value.int .u64)).toArray 125)
noncomputable def awayBL : Code := ((Tryz.f110.body.bind (findB 0)).getD .skip)
set_option maxHeartbeats 4000000 in
set_option maxRecDepth 100000 in
theorem away_loop {R V o S ca cb : Nat} {ds rs0 : List Int} {dg : Int} (hVR : V < R) (hS : S ≤ ds.length) (hoS : o + S < 9) (hds : wgood ds) (hdg : 0 ≤ dg ∧ dg < 18446744073709551616)
    {w0 w : World} (hv : ∀ j, j < S → w0.cell? ⟨V, j, none⟩ = some (.int .u64 (ds.getD j 0))) (h0 : AwayK dg ds o rs0 0 0 0 rs0) (hC0 : Cells9 R rs0 w0 w)
    (c3 c4 c5 c6 c15 c52 c53 c54 c55 c56 c57 c58 c59 c60 c61 c62 c63 c64 c65 c66 c67 c68 u9 u10 u11 u12 u13 u14 u19 u20 u21 u22 u23 u24 u25 u26 u27 u28 u29 u30 u31 u32 u33 u34 u35 u36 u37 u38 u39 u40 u41 u42 u43 u44 u45 u46 u47 u48 u49 u50 u51 : Value) (Q : Exit → Act → World → Prop)
    (hQ : ∀ (E b : Int) (rs : List Int) (u9 u10 u11 u12 u13 u14 u19 u20 u21 u22 u23 u24 u25 u26 u27 u28 u29 u30 u31 u32 u33 u34 u35 u36 u37 u38 u39 u40 u41 u42 u43 u44 u45 u46 u47 u48 u49 u50 u51 : Value) (w1 : World), AwayK dg ds o rs0 S E b rs → Cells9 R rs w0 w1 → Q (.exit 0) ⟨(List.toArray ((.slice (some ⟨R, o, none⟩) (S + 1) ca) :: (.slice (some ⟨V, 0, none⟩) S cb) :: (.int .u64 dg) :: c3 :: c4 :: c5 :: c6 :: (.int .u64 E) :: (.int .u64 b) :: u9 :: u10 :: u11 :: u12 :: u13 :: u14 :: c15 :: (.slice (some ⟨V, 0, none⟩) S cb) :: (.int .i64 (S : Nat)) :: (.int .i64 (S : Nat)) :: u19 :: u20 :: u21 :: u22 :: u23 :: u24 :: u25 :: u26 :: u27 :: u28 :: u29 :: u30 :: u31 :: u32 :: u33 :: u34 :: u35 :: u36 :: u37 :: u38 :: u39 :: u40 :: u41 :: u42 :: u43 :: u44 :: u45 :: u46 :: u47 :: u48 :: u49 :: u50 :: u51 :: c52 :: c53 :: c54 :: c55 :: c56 :: c57 :: c58 :: c59 :: c60 :: c61 :: c62 :: c63 :: c64 :: c65 :: c66 :: c67 :: c68 :: [])), []⟩ w1) :
    Code.wp Tryz.prog awayBL Q ⟨(List.toArray ((.slice (some ⟨R, o, none⟩) (S + 1) ca) :: (.slice (some ⟨V, 0, none⟩) S cb) :: (.int .u64 dg) :: c3 :: c4 :: c5 :: c6 :: (.int .u64 0) :: (.int .u64 0) :: u9 :: u10 :: u11 :: u12 :: u13 :: u14 :: c15 :: (.slice (some ⟨V, 0, none⟩) S cb) :: (.int .i64 (S : Nat)) :: (.int .i64 0) :: u19 :: u20 :: u21 :: u22 :: u23 :: u24 :: u25 :: u26 :: u27 :: u28 :: u29 :: u30 :: u31 :: u32 :: u33 :: u34 :: u35 :: u36 :: u37 :: u38 :: u39 :: u40 :: u41 :: u42 :: u43 :: u44 :: u45 :: u46 :: u47 :: u48 :: u49 :: u50 :: u51 :: c52 :: c53 :: c54 :: c55 :: c56 :: c57 :: c58 :: c59 :: c60 :: c61 :: c62 :: c63 :: c64 :: c65 :: c66 :: c67 :: c68 :: [])), []⟩ w := by
  conv => arg 2; whnf
  go_loopw [7, 8, 18] (fun x y a W => ∃ (E b : Int) (k : Nat) (rs : List Int), x = .int .u64 E ∧ y = .int .u64 b ∧ a = .int .i64 (k : Nat) ∧ k ≤ S ∧ AwayK dg ds o rs0 k E b rs ∧ Cells9 R rs w0 W) (fun _ _ a _ => S - (intOf a).toNat)
  case atStart => exact ⟨0, 0, 0, rs0, rfl, rfl, rfl, Nat.zero_le _, h0, hC0⟩
  case round =>
    obtain ⟨E, b, k, rs, rfl, rfl, rfl, hkS, hd, hc⟩ := hrel
    have k0 : (0 : Int) ≤ (k : Int) := by omega
    have s8 : (S : Int) < 9 := by omega
    by_cases hk : k = S
    · subst hk
      have kk : ¬ (k : Int) < (k : Int) := by omega
      clear hv h0 hC0 hds hdg
      go_wp2
      exact hQ _ _ _ _ _ _ _ _ _ _ _ _ _ _ _ _ _ _ _ _ _ _ _ _ _ _ _ _ _ _ _ _ _ _ _ _ _ _ _ _ _ _ _ hd hc
    · have k1 : (k : Int) < (S : Int) := by omega
      have k2 : (k : Int) < ((S + 1 : Nat) : Int) := by omega
      have hx := wgood_get hds k
      have hy := wgood_get hd.good (o + k)
      have he := hd.e
      have hb := hd.b
      have M := fun w => mul64_c (x := ds.getD k 0) (y := dg) hx hdg w
      obtain ⟨H, hH⟩ : ∃ H, H = ds.getD k 0 * dg / 18446744073709551616 := ⟨_, rfl⟩
      obtain ⟨L, hL⟩ : ∃ L, L = ds.getD k 0 * dg % 18446744073709551616 := ⟨_, rfl⟩
      have hHL : ds.getD k 0 * dg = 18446744073709551616 * H + L := by rw [hH, hL]; omega
      have hLb : 0 ≤ L ∧ L < 18446744073709551616 := by rw [hL]; omega
      have hxd : 0 ≤ ds.getD k 0 * dg ∧ ds.getD k 0 * dg ≤ 18446744073709551615 * 18446744073709551615 := ⟨Int.mul_nonneg hx.1 hdg.1, Int.mul_le_mul (by omega) (by omega) hdg.1 (by decide)⟩
      have hHb : 0 ≤ H ∧ H ≤ 18446744073709551614 := by rw [hH]; omega
      rw [← hH, ← hL] at M
      have hst := hd.step (by omega) (by omega) hHL hLb hHb
      have A := fun w => run_add L E 0 hLb.1 he.1 (by decide) (by decide) w
      simp only [Int.add_zero] at A
      have B := fun w => run_sub (rs.getD (o + k) 0) ((L + E) % 18446744073709551616) b hy.1 (by omega) (by omega) (by omega) (by omega) w
      have hw : IntKind.u64.wrap (H + (L + E) / 18446744073709551616) = H + (L + E) / 18446744073709551616 := by rw [IntKind.wrap_u64]; omega
      have hcv : wr.cell? ⟨V, k, none⟩ = some (.int .u64 (ds.getD k 0)) := (hc.bel.cell (p := ⟨V, k, none⟩) hVR).trans (hv k (by omega))
      have hcr : wr.cell? ⟨R, o + k, none⟩ = some (.int .u64 (rs.getD (o + k) 0)) := by rw [cellOf hc.cells]; exact col_words (by rw [hd.len]; omega)
      have hfz : wr.frozen? ⟨R, o + k, none⟩ = false := frozenOf hc.cells
      have hfin : ∀ y' : Int, y' = (rs.getD (o + k) 0 - (L + E) % 18446744073709551616 - b) % 18446744073709551616 → Cells9 R (rs.set (o + k) y') w0 (wr.setCell ⟨R, o + k, none⟩ (.int .u64 y')) := fun y' _ => by
        refine ⟨hc.bel.setCell (p := ⟨R, o + k, none⟩) (Nat.le_refl R) _, ?_⟩
        rw [heap_setCell_same _ R (o + k) _ 125 _ hc.cells]
        simp [List.map_set]
      have hfin := hfin _ rfl
      clear hH hL hHL hxd hv h0 hC0 hds hd hc
      generalize rs.set (o + k) ((rs.getD (o + k) 0 - (L + E) % 18446744073709551616 - b) % 18446744073709551616) = rs' at *
      generalize (rs.getD (o + k) 0 - (L + E) % 18446744073709551616 - b) % 18446744073709551616 = y' at *
      generalize (if rs.getD (o + k) 0 < (L + E) % 18446744073709551616 + b then 1 else 0 : Int) = b' at *
      generalize rs.getD (o + k) 0 = y at *
      generalize ds.getD k 0 = x at *
      generalize (L + E) % 18446744073709551616 = P at *
      generalize (L + E) / 18446744073709551616 = C at *
      have hrel' : ∃ (E b : Int) (j : Nat) (rs : List Int), Value.int .u64 (H + C) = .int .u64 E ∧ Value.int .u64 b' = .int .u64 b ∧ Value.int .i64 ((k : Int) + 1) = .int .i64 (j : Nat) ∧ j ≤ S ∧ AwayK dg ds o rs0 j E b rs ∧ Cells9 R rs w0 (wr.setCell ⟨R, o + k, none⟩ (.int .u64 y')) := ⟨_, _, k + 1, rs', rfl, rfl, rfl, by omega, hst, hfin⟩
      clear hst hfin hx hy he hb hLb hHb
      go_wp2_with fail
      with_reducible refine (M _).mono ?_
      rintro e w1 ⟨rfl, rfl⟩
      go_wp2
      go_roundw
      case rel => exact hrel'
      case measure => simp [intOf]; omega
end Go.Proofs.YtaafimabgcnbaabGreatDoor
namespace Go.Proofs.YtaafimabgcnbaabGreatDoor
open Go Go.Rx Go.RowKit Go.Big
attribute [local instance] noAv
/-- What is left of the window, and whether it was too much. -/
def AwayR (R : Nat) (dg : Int) (ds rs0 : List Int) (o S : Nat) (w : World) (e : Ending) (w' : World) : Prop := ∃ (rs : List Int) (b : Bool), e = .returned (.bool b) ∧ rs.length = 9 ∧ wgood rs ∧ (∀ j, o + S + 1 ≤ j → rs.getD j 0 = rs0.getD j 0) ∧ wval rs + dg * wval (ds.take S) * pw (2 * o) = wval rs0 + (if b then 1 else 0) * pw (2 * (o + S + 1)) ∧ Cells9 R rs w w'
set_option maxHeartbeats 4000000 in
set_option maxRecDepth 100000 in
theorem away_c {R V o S ca cb : Nat} {ds rs0 : List Int} {dg : Int} (hVR : V < R) (hS : S ≤ ds.length) (hoS : o + S < 9) (hds : wgood ds) (hdg : 0 ≤ dg ∧ dg < 18446744073709551616)
    {w : World} (hv : ∀ j, j < S → w.cell? ⟨V, j, none⟩ = some (.int .u64 (ds.getD j 0))) (hl : rs0.length = 9) (hg : wgood rs0) (hr : w.heap[R]? = some (.cells (rs0.map (Value.int .u64)).toArray 125)) :
    Calls Tryz.prog 110 #[.slice (some ⟨R, o, none⟩) (S + 1) ca, .slice (some ⟨V, 0, none⟩) S cb, .int .u64 dg] w (AwayR R dg ds rs0 o S w) := by
  have h0 : AwayK dg ds o rs0 0 0 0 rs0 := ⟨hl, hg, fun _ _ => rfl, by rw [List.take_zero, show wval [] = 0 from rfl]; simp, by decide, .inl rfl⟩
  have hC0 : Cells9 R rs0 w w := ⟨Below.refl _ _, hr⟩
  go_enter Tryz.func110, Tryz.ntmps110
  go_wp2
  refine away_loop hVR hS hoS hds hdg hv h0 hC0 _ _ _ _ _ _ _ _ _ _ _ _ _ _ _ _ _ _ _ _ _ _ _ _ _ _ _ _ _ _ _ _ _ _ _ _ _ _ _ _ _ _ _ _ _ _ _ _ _ _ _ _ _ _ _ _ _ _ _ _ _ _ (fun E b rs u9 u10 u11 u12 u13 u14 u19 u20 u21 u22 u23 u24 u25 u26 u27 u28 u29 u30 u31 u32 u33 u34 u35 u36 u37 u38 u39 u40 u41 u42 u43 u44 u45 u46 u47 u48 u49 u50 u51 w1 hd hc => ?_)
  obtain ⟨rs', e1, l1, g1, z1, b1, s1⟩ := hd.last hoS
  have hy := wgood_get hd.good (o + S)
  have he := hd.e
  have hb := hd.b
  have B := fun w => run_sub (rs.getD (o + S) 0) E b hy.1 he.1 he.2 (by omega) (by omega) w
  have k0 : (0 : Int) ≤ (S : Int) := by omega
  have s8 : (S : Int) < 9 := by omega
  have k2 : (S : Int) < ((S + 1 : Nat) : Int) := by omega
  have hcr : w1.cell? ⟨R, o + S, none⟩ = some (.int .u64 (rs.getD (o + S) 0)) := by rw [cellOf hc.cells]; exact col_words (by rw [hd.len]; omega)
  have hfz : w1.frozen? ⟨R, o + S, none⟩ = false := frozenOf hc.cells
  have hfin : Cells9 R rs' w (w1.setCell ⟨R, o + S, none⟩ (.int .u64 ((rs.getD (o + S) 0 - E - b) % 18446744073709551616))) := by
    refine ⟨hc.bel.setCell (p := ⟨R, o + S, none⟩) (Nat.le_refl R) _, ?_⟩
    rw [heap_setCell_same _ R (o + S) _ 125 _ hc.cells, e1]
    simp [List.map_set]
  clear e1 hv hr h0 hC0 hd hc hy he hb hl hg hds hdg
  generalize (rs.getD (o + S) 0 - E - b) % 18446744073709551616 = y' at *
  generalize (if rs.getD (o + S) 0 < E + b then 1 else 0 : Int) = b' at *
  generalize rs.getD (o + S) 0 = y at *
  rcases b1 with rfl | rfl
  · have hres : AwayR R dg ds rs0 o S w (.returned (.bool false)) (w1.setCell ⟨R, o + S, none⟩ (.int .u64 y')) := ⟨rs', false, rfl, l1, g1, z1, s1, hfin⟩
    clear l1 g1 z1 s1 hfin
    go_wp2
    go_ret
    exact hres
  · have hres : AwayR R dg ds rs0 o S w (.returned (.bool true)) (w1.setCell ⟨R, o + S, none⟩ (.int .u64 y')) := ⟨rs', true, rfl, l1, g1, z1, s1, hfin⟩
    clear l1 g1 z1 s1 hfin
    go_wp2
    go_ret
    exact hres
end Go.Proofs.YtaafimabgcnbaabGreatDoor
namespace Go.Proofs.YtaafimabgcnbaabGreatDoor
open Go Go.Rx Go.RowKit Go.Big
attribute [local instance] noAv
noncomputable def giveBL : Code := ((Tryz.f111.body.bind (findB 0)).getD .skip)
set_option maxHeartbeats 4000000 in
set_option maxRecDepth 100000 in
theorem give_loop {R V o S ca cb : Nat} {ds rs0 : List Int} (hVR : V < R) (hS : S ≤ ds.length) (hoS : o + S < 9) (hds : wgood ds)
    {w0 w : World} (hv : ∀ j, j < S → w0.cell? ⟨V, j, none⟩ = some (.int .u64 (ds.getD j 0))) (h0 : GiveK ds o rs0 0 0 rs0) (hC0 : Cells9 R rs0 w0 w)
    (c2 c3 c28 c29 c30 c31 c32 c33 c34 c35 u5 u6 u10 u11 u12 u13 u14 u15 u16 u17 u18 u19 u20 u21 u22 u23 u24 u25 u26 u27 : Value) (Q : Exit → Act → World → Prop)
    (hQ : ∀ (c : Int) (rs : List Int) (u5 u6 u10 u11 u12 u13 u14 u15 u16 u17 u18 u19 u20 u21 u22 u23 u24 u25 u26 u27 : Value) (w1 : World), GiveK ds o rs0 S c rs → Cells9 R rs w0 w1 → Q (.exit 0) ⟨(List.toArray ((.slice (some ⟨R, o, none⟩) (S + 1) ca) :: (.slice (some ⟨V, 0, none⟩) S cb) :: c2 :: c3 :: (.int .u64 c) :: u5 :: u6 :: (.slice (some ⟨V, 0, none⟩) S cb) :: (.int .i64 (S : Nat)) :: (.int .i64 (S : Nat)) :: u10 :: u11 :: u12 :: u13 :: u14 :: u15 :: u16 :: u17 :: u18 :: u19 :: u20 :: u21 :: u22 :: u23 :: u24 :: u25 :: u26 :: u27 :: c28 :: c29 :: c30 :: c31 :: c32 :: c33 :: c34 :: c35 :: [])), []⟩ w1) :
    Code.wp Tryz.prog giveBL Q ⟨(List.toArray ((.slice (some ⟨R, o, none⟩) (S + 1) ca) :: (.slice (some ⟨V, 0, none⟩) S cb) :: c2 :: c3 :: (.int .u64 0) :: u5 :: u6 :: (.slice (some ⟨V, 0, none⟩) S cb) :: (.int .i64 (S : Nat)) :: (.int .i64 0) :: u10 :: u11 :: u12 :: u13 :: u14 :: u15 :: u16 :: u17 :: u18 :: u19 :: u20 :: u21 :: u22 :: u23 :: u24 :: u25 :: u26 :: u27 :: c28 :: c29 :: c30 :: c31 :: c32 :: c33 :: c34 :: c35 :: [])), []⟩ w := by
  conv => arg 2; whnf
  go_loopw [4, 9] (fun x a W => ∃ (c : Int) (k : Nat) (rs : List Int), x = .int .u64 c ∧ a = .int .i64 (k : Nat) ∧ k ≤ S ∧ GiveK ds o rs0 k c rs ∧ Cells9 R rs w0 W) (fun _ a _ => S - (intOf a).toNat)
  case atStart => exact ⟨0, 0, rs0, rfl, rfl, Nat.zero_le _, h0, hC0⟩
  case round =>
    obtain ⟨c, k, rs, rfl, rfl, hkS, hd, hc⟩ := hrel
    have k0 : (0 : Int) ≤ (k : Int) := by omega
    have s8 : (S : Int) < 9 := by omega
    by_cases hk : k = S
    · subst hk
      have kk : ¬ (k : Int) < (k : Int) := by omega
      clear hv h0 hC0 hds
      go_wp2
      exact hQ _ _ _ _ _ _ _ _ _ _ _ _ _ _ _ _ _ _ _ _ _ _ _ hd hc
    · have k1 : (k : Int) < (S : Int) := by omega
      have k2 : (k : Int) < ((S + 1 : Nat) : Int) := by omega
      have hx := wgood_get hds k
      have hy := wgood_get hd.good (o + k)
      have hb := hd.c
      have hst := hd.step (by omega) (by omega) hds
      have A := fun w => run_add (rs.getD (o + k) 0) (ds.getD k 0) c hy.1 hx.1 (by omega) (by omega) w
      have hcv : wr.cell? ⟨V, k, none⟩ = some (.int .u64 (ds.getD k 0)) := (hc.bel.cell (p := ⟨V, k, none⟩) hVR).trans (hv k (by omega))
      have hcr : wr.cell? ⟨R, o + k, none⟩ = some (.int .u64 (rs.getD (o + k) 0)) := by rw [cellOf hc.cells]; exact col_words (by rw [hd.len]; omega)
      have hfz : wr.frozen? ⟨R, o + k, none⟩ = false := frozenOf hc.cells
      have hfin : ∀ y' : Int, y' = (rs.getD (o + k) 0 + ds.getD k 0 + c) % 18446744073709551616 → Cells9 R (rs.set (o + k) y') w0 (wr.setCell ⟨R, o + k, none⟩ (.int .u64 y')) := fun y' _ => by
        refine ⟨hc.bel.setCell (p := ⟨R, o + k, none⟩) (Nat.le_refl R) _, ?_⟩
        rw [heap_setCell_same _ R (o + k) _ 125 _ hc.cells]
        simp [List.map_set]
      have hfin := hfin _ rfl
      clear hv h0 hC0 hds hd hc
      generalize rs.set (o + k) ((rs.getD (o + k) 0 + ds.getD k 0 + c) % 18446744073709551616) = rs' at *
      generalize (rs.getD (o + k) 0 + ds.getD k 0 + c) % 18446744073709551616 = y' at *
      generalize (rs.getD (o + k) 0 + ds.getD k 0 + c) / 18446744073709551616 = c' at *
      generalize rs.getD (o + k) 0 = y at *
      generalize ds.getD k 0 = x at *
      have hrel' : ∃ (c : Int) (j : Nat) (rs : List Int), Value.int .u64 c' = .int .u64 c ∧ Value.int .i64 ((k : Int) + 1) = .int .i64 (j : Nat) ∧ j ≤ S ∧ GiveK ds o rs0 j c rs ∧ Cells9 R rs w0 (wr.setCell ⟨R, o + k, none⟩ (.int .u64 y')) := ⟨_, k + 1, rs', rfl, rfl, by omega, hst, hfin⟩
      clear hst hfin hx hy hb
      go_wp2
      go_roundw
      case rel => exact hrel'
      case measure => simp [intOf]; omega
end Go.Proofs.YtaafimabgcnbaabGreatDoor
namespace Go.Proofs.YtaafimabgcnbaabGreatDoor
open Go Go.Rx Go.RowKit Go.Big
/-- The long division from place k on: the quotient's words qs, and what is left, rs. -/
structure LongK (N0 D : Int) (k : Nat) (qs rs : List Int) : Prop where
  ql : qs.length = 8
  qg : wgood qs
  rl : rs.length = 9
  rg : wgood rs
  zero : ∀ j, j < k → qs.getD j 0 = 0
  lt : wval rs < D * pw (2 * k)
  sum : wval qs * D + wval rs = N0
theorem LongK.step {N0 D : Int} {a : Nat} {qs rs rs' : List Int} (h : LongK N0 D (a + 1) qs rs) (hD : 0 < D) (ha : a < 8) (hl : rs'.length = 9) (hg : wgood rs') (hv : wval rs' = wval rs % (D * pw (2 * a))) : LongK N0 D a (qs.set a (wval rs / (D * pw (2 * a)))) rs' := by
  have hp := pw_pos (2 * a)
  have hE : 0 < D * pw (2 * a) := Int.mul_pos hD hp
  have hN := (wval_lt h.rg).1
  have hlt := h.lt
  have m1 := Int.mul_ediv_add_emod (wval rs) (D * pw (2 * a))
  have m3 := Int.emod_lt_of_pos (wval rs) hE
  have q0 : 0 ≤ wval rs / (D * pw (2 * a)) := Int.ediv_nonneg hN (by omega)
  rw [show 2 * (a + 1) = 2 + 2 * a by omega, pw_add, show pw 2 = 18446744073709551616 by decide, Int.mul_comm 18446744073709551616, ← Int.mul_assoc] at hlt
  have q1 : wval rs / (D * pw (2 * a)) < 18446744073709551616 := Int.ediv_lt_of_lt_mul hE (by rw [Int.mul_comm]; exact hlt)
  refine ⟨by simpa using h.ql, wgood_set h.qg _ ⟨q0, q1⟩, hl, hg, fun j hj => ?_, by rw [hv]; exact m3, ?_⟩
  · rw [List.getD_eq_getElem?_getD, List.getElem?_set_ne (by omega), ← List.getD_eq_getElem?_getD]
    exact h.zero j (by omega)
  · rw [wval_set _ _ _ (by rw [h.ql]; exact ha), h.zero a (by omega), Int.sub_zero, hv, ← h.sum, Int.add_mul]
    rw [Int.mul_comm, Int.mul_comm D] at m1
    have e : wval rs / (D * pw (2 * a)) * pw (2 * a) * D = wval rs / (D * pw (2 * a)) * (pw (2 * a) * D) := Int.mul_assoc _ _ _
    rw [e, Int.mul_comm (pw (2 * a)) D]
    rw [Int.mul_comm (pw (2 * a)) D] at m1
    generalize wval rs / (D * pw (2 * a)) * (D * pw (2 * a)) = z at *
    omega
theorem getD_zero {rs : List Int} (hg : wgood rs) {k : Nat} (h : wval rs < pw (2 * k)) : ∀ j, k ≤ j → rs.getD j 0 = 0 := by
  intro j hj
  by_cases hl : j < rs.length
  · have h1 := wgood_get hg j
    rcases Int.lt_or_le 0 (rs.getD j 0) with h0 | h0
    · exfalso
      have h2 := wval_split rs j
      have h3 := (wval_take_lt hg j).1
      have hp := pw_pos (2 * j)
      have h4 : 1 ≤ wval (rs.drop j) := by
        rw [List.drop_eq_getElem_cons hl]
        show 1 ≤ _ + 18446744073709551616 * _
        have h5 := (wval_lt (ws := rs.drop (j + 1)) fun x hx => hg x (List.mem_of_mem_drop hx)).1
        have h6 : rs.getD j 0 = rs[j] := by simp [List.getD, hl]
        omega
      have h7 : pw (2 * j) * 1 ≤ pw (2 * j) * wval (rs.drop j) := Int.mul_le_mul_of_nonneg_left h4 (by omega)
      have h8 := pw_mono (show 2 * k ≤ 2 * j by omega)
      omega
    · omega
  · simp [List.getD, hl]
/-- Nothing of the rest stands above the window. -/
theorem LongK.hz {N0 D : Int} {a s : Nat} {qs rs : List Int} (h : LongK N0 D (a + 1) qs rs) (hD : D < pw (2 * s)) : ∀ j, a + s + 1 ≤ j → rs.getD j 0 = 0 := by
  refine getD_zero h.rg ?_
  have hp := pw_pos (2 * (a + 1))
  have h1 := h.lt
  have h2 : D * pw (2 * (a + 1)) ≤ pw (2 * s) * pw (2 * (a + 1)) := Int.mul_le_mul_of_nonneg_right (by omega) (by omega)
  rw [← pw_add, show 2 * s + 2 * (a + 1) = 2 * (a + s + 1) by omega] at h2
  omega
/-- The words of quotient and remainder. -/
def QuotR (m n : Int) (r : Value) : Prop := ∃ qs rs : List Int, qs.length = 8 ∧ wgood qs ∧ rs.length = 8 ∧ wgood rs ∧ wval qs = m / n ∧ wval rs = m % n ∧ r = .tuple #[.agg (qs.map (Value.int .u64)).toArray, .agg (rs.map (Value.int .u64)).toArray]
theorem quot_of {m n q r : Int} (h : q * n + r = m) (h0 : 0 ≤ r) (h1 : r < n) : q = m / n ∧ r = m % n := by
  rw [← h, Int.add_comm, Int.mul_comm]
  rw [Int.add_mul_ediv_left _ _ (by omega), Int.add_mul_emod_self_left, Int.ediv_eq_zero_of_lt h0 h1, Int.emod_eq_of_lt h0 h1]
  omega
theorem LongK.done {m n P : Int} {qs rs : List Int} (h : LongK (m * P) (n * P) 0 qs rs) (hP : 0 < P) (hD : n * P < pw 16) : wval qs = m / n ∧ wval (rs.take 8) / P = m % n ∧ (rs.take 8).length = 8 ∧ wgood (rs.take 8) := by
  have h1 := h.lt
  have h2 := h.sum
  rw [show pw (2 * 0) = 1 from rfl, Int.mul_one] at h1
  have h3 := wval_below h.rg (getD_zero (k := 8) h.rg (by show _ < pw 16; omega))
  have h4 := (wval_lt h.rg).1
  have e : wval rs = (m - wval qs * n) * P := by
    rw [Int.sub_mul, Int.mul_assoc]
    omega
  have e1 : wval rs / P = m - wval qs * n := by rw [e, Int.mul_ediv_cancel _ (by omega)]
  have e2 : m - wval qs * n < n := by
    rw [e] at h1
    exact Int.lt_of_mul_lt_mul_right h1 (by omega)
  have e3 : 0 ≤ m - wval qs * n := by rw [← e1]; exact Int.ediv_nonneg h4 (by omega)
  obtain ⟨a1, a2⟩ := quot_of (m := m) (n := n) (q := wval qs) (r := m - wval qs * n) (by omega) e3 e2
  exact ⟨a1, by rw [← h3, e1]; exact a2, by rw [List.length_take, h.rl]; rfl, wgood_take h.rg 8⟩
/-- The beginning of the long division. -/
theorem LongK.init {m n P : Int} {L s : Nat} {rs : List Int} (hm : 0 ≤ m ∧ m < pw (2 * L)) (hsL : s ≤ L) (hP : 0 < P ∧ P ≤ 9223372036854775808) (hn : pw (2 * s) ≤ n * P * 2) (hrl : rs.length = 9) (hrg : wgood rs) (hv : wval rs = m * P) : LongK (m * P) (n * P) (L - s + 1) (List.replicate 8 0) rs := by
  refine ⟨rfl, fun x hx => by rw [List.eq_of_mem_replicate hx]; decide, hrl, hrg, fun j _ => by rw [List.getD_eq_getElem?_getD, List.getElem?_replicate]; split <;> rfl, ?_, ?_⟩
  · have hp := pw_pos (2 * (L - s))
    have h1 : m * P ≤ m * 9223372036854775808 := Int.mul_le_mul_of_nonneg_left hP.2 hm.1
    have h2 : pw (2 * s) * pw (2 * (L - s)) ≤ n * P * 2 * pw (2 * (L - s)) := Int.mul_le_mul_of_nonneg_right hn (by omega)
    rw [← pw_add, show 2 * s + 2 * (L - s) = 2 * L by omega] at h2
    rw [hv, show 2 * (L - s + 1) = 2 + 2 * (L - s) by omega, pw_add, show pw 2 = 18446744073709551616 by decide, Int.mul_comm 18446744073709551616, ← Int.mul_assoc]
    have h3 : n * P * 2 * pw (2 * (L - s)) = 2 * (n * P * pw (2 * (L - s))) := by rw [Int.mul_comm (n * P) 2, Int.mul_assoc]
    rw [h3] at h2
    omega
  · rw [show wval (List.replicate 8 0) = 0 by decide, hv]; omega
/-- .. when there is no word of quotient at all. -/
theorem LongK.none {m n P : Int} {rs : List Int} (h : m < n) (hP : 0 < P) (hrl : rs.length = 9) (hrg : wgood rs) (hv : wval rs = m * P) : LongK (m * P) (n * P) 0 (List.replicate 8 0) rs := by
  refine ⟨rfl, fun x hx => by rw [List.eq_of_mem_replicate hx]; decide, hrl, hrg, fun j hj => absurd hj (Nat.not_lt_zero _), ?_, ?_⟩
  · rw [hv, show pw (2 * 0) = 1 from rfl, Int.mul_one]
    exact Int.mul_lt_mul_of_pos_right h hP
  · rw [show wval (List.replicate 8 0) = 0 by decide, hv]; omega
/-- The divisor, shifted. -/
theorem left_facts {ns ds : List Int} {S s1 : Nat} {U y P R : Int} (h1 : S = s1 + 1) (hS : S ≤ 8) (hl : ns.length = 8) (hg : wgood ns) (hnS : wval (ns.take S) = wval ns) (hy : ns.getD s1 0 = y) (hP : 1 ≤ P) (hPR : P * R = 18446744073709551616) (hpl : 9223372036854775808 ≤ y * P) (hpu : y * P < 18446744073709551616)
    (dl : ds.length = 8) (dg : wgood ds) (hU : 0 ≤ U) (hs : wval ds + U * pw 16 = wval ns * P) :
    wval ds = wval ns * P ∧ wval ns * P < pw (2 * S) ∧ wval (ds.take S) = wval ds ∧ 9223372036854775808 ≤ ds.getD s1 0 ∧ pw (2 * S) ≤ wval ns * P * 2 ∧ pw (2 * s1) ≤ wval ns := by
  subst h1
  have hp := pw_pos (2 * s1)
  have a1 := wval_take_succ ns s1 (by omega)
  rw [hnS, hy] at a1
  have a2 := wval_take_lt hg s1
  have y1 : 1 ≤ y := by
    rcases Int.lt_or_le 0 y with h | h
    · omega
    · have : y * P ≤ 0 := Int.mul_nonpos_of_nonpos_of_nonneg h (by omega)
      omega
  have y2 : y + 1 ≤ R := by
    rcases Int.lt_or_le y R with h | h
    · omega
    · have : P * R ≤ y * P := by rw [Int.mul_comm y]; exact Int.mul_le_mul_of_nonneg_left h (by omega)
      omega
  have e2 : pw (2 * (s1 + 1)) = 18446744073709551616 * pw (2 * s1) := by rw [show 2 * (s1 + 1) = 2 + 2 * s1 by omega, pw_add]; rfl
  have b1 : wval ns * P < pw (2 * (s1 + 1)) := by
    have c1 : wval ns < (y + 1) * pw (2 * s1) := by rw [Int.add_mul]; omega
    have c2 : (y + 1) * pw (2 * s1) ≤ R * pw (2 * s1) := Int.mul_le_mul_of_nonneg_right y2 (by omega)
    have c3 : wval ns * P < R * pw (2 * s1) * P := Int.mul_lt_mul_of_pos_right (by omega) (by omega)
    have c4 : R * pw (2 * s1) * P = P * R * pw (2 * s1) := by rw [Int.mul_comm _ P, Int.mul_assoc]
    rw [e2, ← hPR, ← c4]
    exact c3
  have b2 : pw (2 * (s1 + 1)) ≤ pw 16 := pw_mono (by omega)
  have hd0 := wval_lt dg
  have hU0 : U = 0 := by
    rcases Int.lt_or_le 0 U with h | h
    · have : 1 * pw 16 ≤ U * pw 16 := Int.mul_le_mul_of_nonneg_right (by omega) (Int.le_of_lt (pw_pos 16))
      omega
    · omega
  rw [hU0, Int.zero_mul, Int.add_zero] at hs
  have b3 : 9223372036854775808 * pw (2 * s1) ≤ wval ns * P := by
    have c1 : y * pw (2 * s1) * P ≤ wval ns * P := Int.mul_le_mul_of_nonneg_right (by omega) (by omega)
    have c2 : y * pw (2 * s1) * P = y * P * pw (2 * s1) := by rw [Int.mul_assoc, Int.mul_comm (pw _), ← Int.mul_assoc]
    have c3 : 9223372036854775808 * pw (2 * s1) ≤ y * P * pw (2 * s1) := Int.mul_le_mul_of_nonneg_right hpl (by omega)
    omega
  have b4 : wval (ds.take (s1 + 1)) = wval ds := (wval_below dg (getD_zero dg (by rw [hs]; exact b1))).symm
  refine ⟨hs, b1, b4, ?_, by rw [e2]; omega, ?_⟩
  · have d1 := wval_take_succ ds s1 (by omega)
    have d2 := wval_take_lt dg s1
    rw [b4, hs] at d1
    rcases Int.lt_or_le (ds.getD s1 0) 9223372036854775808 with h | h
    · exfalso
      have : (ds.getD s1 0 + 1) * pw (2 * s1) ≤ 9223372036854775808 * pw (2 * s1) := Int.mul_le_mul_of_nonneg_right (by omega) (by omega)
      rw [Int.add_mul] at this
      omega
    · exact h
  · have : 1 * pw (2 * s1) ≤ y * pw (2 * s1) := Int.mul_le_mul_of_nonneg_right y1 (by omega)
    omega
/-- The dividend, shifted, with the bits that go beyond. -/
theorem rest_val {ls : List Int} {U : Int} (hl : ls.length = 8) : wval (ls ++ [U]) = wval ls + U * pw 16 := by
  rw [wval_append, hl, Int.mul_comm]
  show _ + (U + 18446744073709551616 * 0) * pw 16 = _
  rw [Int.mul_zero, Int.add_zero]
end Go.Proofs.YtaafimabgcnbaabGreatDoor
namespace Go.Proofs.YtaafimabgcnbaabGreatDoor
open Go Go.Rx Go.RowKit Go.Big
attribute [local instance] noAv
/-- The window with the divisor added. -/
def GiveR (R : Nat) (ds rs0 : List Int) (o S : Nat) (w : World) (e : Ending) (w' : World) : Prop := ∃ (rs : List Int) (c : Int), e = .returned (.tuple #[]) ∧ rs.length = 9 ∧ wgood rs ∧ (∀ j, o + S + 1 ≤ j → rs.getD j 0 = rs0.getD j 0) ∧ (c = 0 ∨ c = 1) ∧ wval rs + c * pw (2 * (o + S + 1)) = wval rs0 + wval (ds.take S) * pw (2 * o) ∧ Cells9 R rs w w'
set_option maxHeartbeats 4000000 in
set_option maxRecDepth 100000 in
theorem give_c {R V o S ca cb : Nat} {ds rs0 : List Int} (hVR : V < R) (hS : S ≤ ds.length) (hoS : o + S < 9) (hds : wgood ds)
    {w : World} (hv : ∀ j, j < S → w.cell? ⟨V, j, none⟩ = some (.int .u64 (ds.getD j 0))) (hl : rs0.length = 9) (hg : wgood rs0) (hr : w.heap[R]? = some (.cells (rs0.map (Value.int .u64)).toArray 125)) :
    Calls Tryz.prog 111 #[.slice (some ⟨R, o, none⟩) (S + 1) ca, .slice (some ⟨V, 0, none⟩) S cb] w (GiveR R ds rs0 o S w) := by
  have h0 : GiveK ds o rs0 0 0 rs0 := ⟨hl, hg, fun _ _ => rfl, by rw [List.take_zero, show wval [] = 0 from rfl]; simp, .inl rfl⟩
  have hC0 : Cells9 R rs0 w w := ⟨Below.refl _ _, hr⟩
  go_enter Tryz.func111, Tryz.ntmps111
  go_wp2
  refine give_loop hVR hS hoS hds hv h0 hC0 _ _ _ _ _ _ _ _ _ _ _ _ _ _ _ _ _ _ _ _ _ _ _ _ _ _ _ _ _ _ _ (fun c rs u5 u6 u10 u11 u12 u13 u14 u15 u16 u17 u18 u19 u20 u21 u22 u23 u24 u25 u26 u27 w1 hd hc => ?_)
  obtain ⟨rs', c', e1, l1, g1, z1, b1, s1⟩ := hd.last hoS
  have hy := wgood_get hd.good (o + S)
  have hb := hd.c
  have hw : IntKind.u64.wrap (rs.getD (o + S) 0 + c) = (rs.getD (o + S) 0 + c) % 18446744073709551616 := IntKind.wrap_u64 _
  have k0 : (0 : Int) ≤ (S : Int) := by omega
  have s8 : (S : Int) < 9 := by omega
  have k2 : (S : Int) < ((S + 1 : Nat) : Int) := by omega
  have hcr : w1.cell? ⟨R, o + S, none⟩ = some (.int .u64 (rs.getD (o + S) 0)) := by rw [cellOf hc.cells]; exact col_words (by rw [hd.len]; omega)
  have hfz : w1.frozen? ⟨R, o + S, none⟩ = false := frozenOf hc.cells
  have hfin : Cells9 R rs' w (w1.setCell ⟨R, o + S, none⟩ (.int .u64 ((rs.getD (o + S) 0 + c) % 18446744073709551616))) := by
    refine ⟨hc.bel.setCell (p := ⟨R, o + S, none⟩) (Nat.le_refl R) _, ?_⟩
    rw [heap_setCell_same _ R (o + S) _ 125 _ hc.cells, e1]
    simp [List.map_set]
  clear e1 hv hr h0 hC0 hd hc hy hb hl hg hds
  generalize (rs.getD (o + S) 0 + c) % 18446744073709551616 = y' at *
  generalize rs.getD (o + S) 0 = y at *
  have hres : GiveR R ds rs0 o S w (.returned (.tuple #[])) (w1.setCell ⟨R, o + S, none⟩ (.int .u64 y')) := ⟨rs', c', rfl, l1, g1, z1, b1, s1, hfin⟩
  clear l1 g1 z1 s1 hfin b1
  go_wp2
  exact bodyPost_end (results_none rfl _ _ _) rfl hres
/-- A digit, and what is left of the window. -/
def WindR (R : Nat) (D : Int) (rs0 : List Int) (w : World) (e : Ending) (w' : World) : Prop := ∃ (rs : List Int), e = .returned (.int .u64 (wval rs0 / D)) ∧ rs.length = 9 ∧ wgood rs ∧ wval rs = wval rs0 % D ∧ Cells9 R rs w w'
set_option maxHeartbeats 4000000 in
set_option maxRecDepth 100000 in
theorem window_c {R V o S n1 n2 ca cb : Nat} {ds rs0 : List Int} (hVR : V < R) (h1 : S = n1 + 1) (h2 : S = n2 + 2) (hS : S ≤ ds.length) (hS8 : S ≤ 8) (hoS : o + S < 9) (hds : wgood ds) (htop : 9223372036854775808 ≤ ds.getD n1 0)
    {w : World} (hv : ∀ j, j < S → w.cell? ⟨V, j, none⟩ = some (.int .u64 (ds.getD j 0))) (hl : rs0.length = 9) (hg : wgood rs0) (hr : w.heap[R]? = some (.cells (rs0.map (Value.int .u64)).toArray 125))
    (hz : ∀ j, o + S + 1 ≤ j → rs0.getD j 0 = 0) (hlt : wval rs0 < wval (ds.take S) * pw (2 * o) * 18446744073709551616) :
    Calls Tryz.prog 96 #[.slice (some ⟨R, o, none⟩) (S + 1) ca, .slice (some ⟨V, 0, none⟩) S cb] w (WindR R (wval (ds.take S) * pw (2 * o)) rs0 w) := by
  have hp := pw_pos (2 * (o + n2))
  have b1 := wgood_get hds n1
  have b2 := wgood_get hds n2
  have r0 := wgood_get hg (o + S)
  have r1 := wgood_get hg (o + n1)
  have r2 := wgood_get hg (o + n2)
  have cr : ∀ j, j < 9 → w.cell? ⟨R, j, none⟩ = some (.int .u64 (rs0.getD j 0)) := fun j hj => by rw [cellOf hr]; exact col_words (by rw [hl]; exact hj)
  have G := guess_c (c0 := ca) (c1 := cb) h1 h2 hS8 (top := ds.getD n1 0) (next := ds.getD n2 0) (high := rs0.getD (o + S) 0) (middle := rs0.getD (o + n1) 0) (low := rs0.getD (o + n2) 0) (by omega) b2 r0 r1 r2 (hv _ (by omega)) (hv _ (by omega)) (cr _ (by omega)) (cr _ (by omega)) (cr _ (by omega))
  obtain ⟨NL, DL, q1, q2, q3, q4⟩ := rows_parts (o := o) (s := n2) hg hds hl (by omega) (by omega) (fun j hj => hz j (by omega))
  rw [show n2 + 2 = S by omega, show n2 + 1 = n1 by omega] at q3
  rw [show n2 + 2 = S by omega, show n2 + 1 = n1 by omega] at q4
  have hD : 0 < wval (ds.take S) * pw (2 * o) := by
    rw [q4]
    have := Int.mul_pos (show 0 < ds.getD n1 0 * 18446744073709551616 + ds.getD n2 0 by omega) hp
    omega
  have near : ∀ dg : Int, (ds.getD n1 0 ≤ rs0.getD (o + S) 0 → dg = 18446744073709551615) → (rs0.getD (o + S) 0 < ds.getD n1 0 → dg = ((rs0.getD (o + S) 0 * 18446744073709551616 + rs0.getD (o + n1) 0) * 18446744073709551616 + rs0.getD (o + n2) 0) / (ds.getD n1 0 * 18446744073709551616 + ds.getD n2 0)) → DigitNear (wval rs0) (wval (ds.take S) * pw (2 * o)) dg := fun dg g1 g2 => by
    rcases Int.lt_or_le (rs0.getD (o + S) 0) (ds.getD n1 0) with h | h
    · rw [g2 h]
      exact near_of hp q3 q1 q4 q2 rfl rfl htop b2 r2 (by omega) (by omega)
    · rw [g1 h]
      exact near_all hp q3 q1.1 (by omega) q4 q2 rfl htop b2 h hlt
  clear q3 q4 q1 q2 hlt cr
  have A := fun (dg : Int) (hdg : 0 ≤ dg ∧ dg < 18446744073709551616) (w1 : World) (hb : Below w.heap.size w w1) => away_c (ca := ca) (cb := cb) hVR hS hoS hds hdg (w := w1) (fun j hj => (hb.cell (p := ⟨V, j, none⟩) (Nat.lt_trans hVR (Array.getElem?_eq_some_iff.1 hr).1)).trans (hv j hj)) hl hg ((hb.block R (Array.getElem?_eq_some_iff.1 hr).1).trans hr)
  have N1 : ∀ rs : List Int, rs.length = 9 → wgood rs → (∀ j, o + S + 1 ≤ j → rs.getD j 0 = rs0.getD j 0) → 0 ≤ wval rs ∧ wval rs < pw (2 * (o + S + 1)) := fun rs _ g z => by
    rw [wval_below g (fun j hj => (z j hj).trans (hz j hj))]
    exact wval_take_lt g _
  have hRs : R < w.heap.size := (Array.getElem?_eq_some_iff.1 hr).1
  clear hr b1 b2 r0 r1 r2 hp htop h1 h2
  go_enter Tryz.func96, Tryz.ntmps96
  go_wp2_with fail
  with_reducible refine G.mono ?_
  rintro e w1 ⟨r1, rfl, ⟨dg, rfl, g1, g2⟩, hb1⟩
  have hn := near dg g1 g2
  have hlt := hn.lt
  clear near g1 g2 G
  go_wp2_with fail
  with_reducible refine (A dg hlt w1 hb1).mono ?_
  rintro e w2 ⟨rs, b, rfl, l1, g1, z1, s1, c1⟩
  have p1 := N1 rs l1 g1 z1
  rw [Int.mul_assoc] at s1
  cases b with
  | false =>
    obtain ⟨f1, f2⟩ := (near_take hn hD p1 (.inl rfl) s1).1 rfl
    have hres : WindR R (wval (ds.take S) * pw (2 * o)) rs0 w (.returned (.int .u64 dg)) w2 := ⟨rs, by rw [f1], l1, g1, f2, ⟨(hb1.mono (Nat.le_of_lt hRs)).trans c1.bel, c1.cells⟩⟩
    clear s1 p1 f1 f2 A N1 hn l1 g1 z1 c1 hz
    go_wp2
    go_ret
    exact hres
  | true =>
    obtain ⟨f1, f2⟩ := (near_take hn hD p1 (.inr rfl) s1).2 rfl
    have q0 : 0 ≤ wval rs0 / (wval (ds.take S) * pw (2 * o)) := Int.ediv_nonneg (wval_lt hg).1 (by omega)
    have hw : IntKind.u64.wrap (dg - 1) = dg - 1 := by rw [IntKind.wrap_u64]; omega
    have B := give_c (ca := ca) (cb := cb) hVR hS hoS hds (w := w2) (fun j hj => (c1.bel.cell (p := ⟨V, j, none⟩) hVR).trans ((hb1.cell (p := ⟨V, j, none⟩) (Nat.lt_trans hVR hRs)).trans (hv j hj))) l1 g1 c1.cells
    have hres : ∀ w3, GiveR R ds rs o S w2 (.returned (.tuple #[])) w3 → WindR R (wval (ds.take S) * pw (2 * o)) rs0 w (.returned (.int .u64 (dg - 1))) w3 := fun w3 h => by
      obtain ⟨rs', c, _, l2, g2, z2, b2, s2, c2⟩ := h
      have p2 := N1 rs' l2 g2 (fun j hj => (z2 j hj).trans (z1 j hj))
      exact ⟨rs', by rw [f1], l2, g2, f2 _ _ p2 b2 s2, ⟨((hb1.mono (Nat.le_of_lt hRs)).trans c1.bel).trans c2.bel, c2.cells⟩⟩
    clear s1 p1 f1 f2 A N1 hn l1 g1 z1 c1 hz q0 hlt
    go_wp2_with fail
    with_reducible refine B.mono ?_
    intro e w3 hgv
    obtain ⟨rs', c, rfl, l2⟩ := id hgv
    have hres3 := hres w3 hgv
    clear hres hgv l2 B
    go_wp2
    go_ret
    exact hres3
end Go.Proofs.YtaafimabgcnbaabGreatDoor
namespace Go.Proofs.YtaafimabgcnbaabGreatDoor
open Go Go.Rx Go.RowKit Go.Big
attribute [local instance] noAv
/-- Quotient and rest stand in their blocks, and nothing else has changed. -/
structure LongW (Q R : Nat) (qs rs : List Int) (w0 W : World) : Prop where
  bel : Below Q w0 W
  keep : ∀ b, b < R → b ≠ Q → W.heap[b]? = w0.heap[b]?
  q : W.heap[Q]? = some (.cells (qs.map (Value.int .u64)).toArray 59)
  r : W.heap[R]? = some (.cells (rs.map (Value.int .u64)).toArray 125)
theorem cell_same {W W' : World} {b : Nat} (h : W.heap[b]? = W'.heap[b]?) (j : Nat) : W.cell? ⟨b, j, none⟩ = W'.cell? ⟨b, j, none⟩ := by
  simp [World.cell?, h]
noncomputable def longBL : Code := ((Tryz.f70.body.bind (findB 0)).getD .skip)
set_option maxHeartbeats 4000000 in
set_option maxRecDepth 100000 in
theorem long_loop {Q R V S n1 n2 k0 : Nat} {N0 D : Int} {ds qs0 rs0 : List Int} (hQV : Q < V) (hVR : V < R) (h1 : S = n1 + 1) (h2 : S = n2 + 2) (hdl : ds.length = 8) (hds : wgood ds) (hDv : wval (ds.take S) = D) (hDp : D < pw (2 * S)) (htop : 9223372036854775808 ≤ ds.getD n1 0) (hkS : k0 = 0 ∨ k0 + S ≤ 9) (hk8 : k0 ≤ 8) {t0 : Int} (ht0 : t0 = (k0 : Int) - 1 ∨ (k0 = 0 ∧ t0 < 0))
    {w : World} (hv : ∀ j, j < S → w.cell? ⟨V, j, none⟩ = some (.int .u64 (ds.getD j 0))) (h0 : LongK N0 D k0 qs0 rs0) (hq0 : w.heap[Q]? = some (.cells (qs0.map (Value.int .u64)).toArray 59)) (hr0 : w.heap[R]? = some (.cells (rs0.map (Value.int .u64)).toArray 125))
    (c0 c1 c2 c3 c5 c7 c11 c12 c13 c14 c15 c16 c17 c18 c19 c20 c21 c22 c23 c24 c25 c26 c27 c28 c29 c30 c31 c32 c33 c34 c35 c36 c37 c38 c39 c40 c41 c42 c43 c44 c45 c46 c47 c48 c64 c65 c66 c67 c68 c69 c70 u49 u50 u51 u52 u53 u54 u55 u56 u57 u58 u59 u60 u61 u62 u63 : Value) (Qp : Exit → Act → World → Prop)
    (hQ : ∀ (qs rs : List Int) (u10 u49 u50 u51 u52 u53 u54 u55 u56 u57 u58 u59 u60 u61 u62 u63 : Value) (w1 : World), LongK N0 D 0 qs rs → LongW Q R qs rs w w1 → Qp (.exit 0) ⟨(List.toArray (c0 :: c1 :: c2 :: c3 :: (.pointer (some ⟨Q, 0, none⟩)) :: c5 :: (.int .i64 (S : Nat)) :: c7 :: (.pointer (some ⟨V, 0, none⟩)) :: (.pointer (some ⟨R, 0, none⟩)) :: u10 :: c11 :: c12 :: c13 :: c14 :: c15 :: c16 :: c17 :: c18 :: c19 :: c20 :: c21 :: c22 :: c23 :: c24 :: c25 :: c26 :: c27 :: c28 :: c29 :: c30 :: c31 :: c32 :: c33 :: c34 :: c35 :: c36 :: c37 :: c38 :: c39 :: c40 :: c41 :: c42 :: c43 :: c44 :: c45 :: c46 :: c47 :: c48 :: u49 :: u50 :: u51 :: u52 :: u53 :: u54 :: u55 :: u56 :: u57 :: u58 :: u59 :: u60 :: u61 :: u62 :: u63 :: c64 :: c65 :: c66 :: c67 :: c68 :: c69 :: c70 :: [])), []⟩ w1) :
    Code.wp Tryz.prog longBL Qp ⟨(List.toArray (c0 :: c1 :: c2 :: c3 :: (.pointer (some ⟨Q, 0, none⟩)) :: c5 :: (.int .i64 (S : Nat)) :: c7 :: (.pointer (some ⟨V, 0, none⟩)) :: (.pointer (some ⟨R, 0, none⟩)) :: (.int .i64 t0) :: c11 :: c12 :: c13 :: c14 :: c15 :: c16 :: c17 :: c18 :: c19 :: c20 :: c21 :: c22 :: c23 :: c24 :: c25 :: c26 :: c27 :: c28 :: c29 :: c30 :: c31 :: c32 :: c33 :: c34 :: c35 :: c36 :: c37 :: c38 :: c39 :: c40 :: c41 :: c42 :: c43 :: c44 :: c45 :: c46 :: c47 :: c48 :: u49 :: u50 :: u51 :: u52 :: u53 :: u54 :: u55 :: u56 :: u57 :: u58 :: u59 :: u60 :: u61 :: u62 :: u63 :: c64 :: c65 :: c66 :: c67 :: c68 :: c69 :: c70 :: [])), []⟩ w := by
  have hS8 : S ≤ 8 := by
    rcases Nat.lt_or_ge n1 8 with h | h
    · omega
    · rw [List.getD_eq_getElem?_getD, List.getElem?_eq_none (by omega)] at htop
      exact absurd htop (by decide)
  have hD : 0 < D := by
    have hx := wval_take_succ ds n1 (by omega)
    rw [← h1, hDv] at hx
    have h3 := (wval_take_lt hds n1).1
    have h4 := Int.mul_pos (show 0 < ds.getD n1 0 by omega) (pw_pos (2 * n1))
    omega
  conv => arg 2; whnf
  go_loopw [10] (fun a W => ∃ (k : Nat) (t : Int) (qs rs : List Int), a = .int .i64 t ∧ (t = (k : Int) - 1 ∨ (k = 0 ∧ t < 0)) ∧ (k = 0 ∨ k + S ≤ 9) ∧ k ≤ 8 ∧ LongK N0 D k qs rs ∧ LongW Q R qs rs w W) (fun a _ => (intOf a + 1).toNat)
  case atStart => exact ⟨k0, t0, qs0, rs0, rfl, ht0, hkS, hk8, h0, ⟨Below.refl _ _, fun _ _ _ => rfl, hq0, hr0⟩⟩
  case round =>
    obtain ⟨k, t, qs, rs, rfl, ht, hkS', hk8', hd, hc⟩ := hrel
    by_cases hk0 : k = 0
    · subst hk0
      have ht1 : t < 0 := by omega
      have ht2 : ¬ 0 ≤ t := by omega
      clear hv h0 hq0 hr0 hds htop h1 h2
      go_wp2
      exact hQ _ _ _ _ _ _ _ _ _ _ _ _ _ _ _ _ _ _ _ hd hc
    · obtain ⟨i, rfl⟩ : ∃ i, k = i + 1 := ⟨k - 1, by omega⟩
      obtain rfl : t = (i : Int) := by omega
      have i0 : (0 : Int) ≤ (i : Int) := by omega
      have i8 : (i : Int) < 8 := by omega
      obtain ⟨m, hm⟩ : ∃ m : Nat, m = i + S := ⟨_, rfl⟩
      obtain ⟨m1, hm1⟩ : ∃ m1 : Nat, m1 = m + 1 := ⟨_, rfl⟩
      have e1 : IntKind.i64.wrap ((i : Int) + (S : Int)) = (m : Int) := by rw [IntKind.wrap_i64]; omega
      have e2 : IntKind.i64.wrap ((m : Int) + 1) = (m1 : Int) := by rw [IntKind.wrap_i64]; omega
      have l1 : (i : Int) ≤ (m1 : Int) := by omega
      have l2 : (m1 : Int) ≤ 9 := by omega
      have l3 : (S : Int) ≤ 8 := by omega
      have l4 : (0 : Int) ≤ (S : Int) := by omega
      have l5 : (0 : Int) ≤ (m1 : Int) := by omega
      have s1 : m1 - i = S + 1 := by omega
      have hRs : R < wr.heap.size := (Array.getElem?_eq_some_iff.1 hc.r).1
      have hlt := hd.lt
      rw [show 2 * (i + 1) = 2 * i + 2 by omega, pw_add, show pw 2 = 18446744073709551616 by decide, ← Int.mul_assoc] at hlt
      have Wn := window_c (ca := 9 - i) (cb := 8) hVR h1 h2 (by omega) hS8 (o := i) (by omega) hds htop (w := wr.drew) (rs0 := rs) (fun j hj => (cell_same (hc.keep V hVR (by omega)) j).trans (hv j hj)) hd.rl hd.rg hc.r (hd.hz hDp) (by rw [hDv]; exact hlt)
      rw [hDv] at Wn
      have hstep := fun rs' l g v => hd.step (rs' := rs') hD (by omega) l g v
      obtain ⟨q, hq⟩ : ∃ q, q = wval rs / (D * pw (2 * i)) := ⟨_, rfl⟩
      rw [← hq] at hstep
      have hfin : ∀ W1, WindR R (D * pw (2 * i)) rs wr.drew (.returned (.int .u64 q)) W1 → ∃ (k : Nat) (t : Int) (qs rs : List Int), Value.int .i64 ((i : Int) - 1) = .int .i64 t ∧ (t = (k : Int) - 1 ∨ (k = 0 ∧ t < 0)) ∧ (k = 0 ∨ k + S ≤ 9) ∧ k ≤ 8 ∧ LongK N0 D k qs rs ∧ LongW Q R qs rs w (W1.setCell ⟨Q, i, none⟩ (.int .u64 q)) := fun W1 h => by
        obtain ⟨rs', -, l', g', v', c'⟩ := h
        have hq1 : W1.heap[Q]? = some (.cells (qs.map (Value.int .u64)).toArray 59) := (c'.bel.block Q (show Q < R by omega)).trans hc.q
        refine ⟨i, _, _, rs', rfl, .inl rfl, by omega, by omega, hstep _ l' g' v', ⟨?_, fun b hb hbQ => ?_, ?_, ?_⟩⟩
        · exact (hc.bel.drew.trans (c'.bel.mono (show Q ≤ R by omega))).setCell (p := ⟨Q, i, none⟩) (Nat.le_refl Q) _
        · rw [heap_setCell_other _ _ _ _ hbQ]
          exact (c'.bel.block b hb).trans (hc.keep b hb hbQ)
        · rw [heap_setCell_same W1 Q i _ 59 _ hq1]
          simp [List.map_set]
        · rw [heap_setCell_other _ _ _ _ (by show R ≠ Q; omega)]
          exact c'.cells
      have hf2 : ∀ W1, Cells9 R rs wr.drew W1 ∨ Below R wr.drew W1 → W1.cell? ⟨Q, i, none⟩ = some (.int .u64 (qs.getD i 0)) ∧ W1.frozen? ⟨Q, i, none⟩ = false := fun W1 h => by
        have hb : Below R wr.drew W1 := by rcases h with h | h; exact h.bel; exact h
        have hq1 : W1.heap[Q]? = some (.cells (qs.map (Value.int .u64)).toArray 59) := (hb.block Q (show Q < R by omega)).trans hc.q
        exact ⟨by rw [cellOf hq1]; exact col_words (by rw [hd.ql]; omega), frozenOf hq1⟩
      have hQV' : (⟨Q, i, none⟩ : Addr).block ≠ (⟨V, 0, none⟩ : Addr).block := show Q ≠ V by omega
      have hd0 : wr.drew.cell? ⟨V, 0, none⟩ = some (.int .u64 (ds.getD 0 0)) := (cell_same (hc.keep V hVR (by omega)) 0).trans (hv 0 (by omega))
      generalize ds.getD 0 0 = d0 at hd0
      clear hd hc h0 hq0 hr0 hv hds hdl hDv hDp htop hstep hlt hQ hm hm1 h1 h2
      have hs1 : ∀ w : World, (Instr.sliceAt 125 (.pointer (some ⟨R, 0, none⟩)) (some (.int .i64 (i : Nat))) (some (.int .i64 (m1 : Nat))) none).run Tryz.prog w = .ok (.slice (some ⟨R, i, none⟩) (S + 1) (9 - i)) w := fun w => by
        go_simp
        omega
      have hs2 : ∀ w : World, (Instr.sliceAt 59 (.pointer (some ⟨V, 0, none⟩)) none (some (.int .i64 (S : Nat))) none).run Tryz.prog w = .ok (.slice (some ⟨V, 0, none⟩) S 8) w := fun w => by
        go_simp
      go_wp2
      go_region_held3 (fun w' => w'.cell? ⟨V, 0, none⟩ = some (.int .u64 d0))
        (first | exact hd0 | exact hd1 | exact (World.cell?_setCell_far _ _ _ _ hQV').trans hd1)
        (first | (go_at_call 96; (with_reducible refine Wn.mono ?_); intro e W1 hwr; obtain ⟨rs', he, -, -, -, c'⟩ := id hwr; rw [← hq] at he; subst he; have hrel := hfin W1 hwr; obtain ⟨g1, g2⟩ := hf2 W1 (.inr c'.bel); have hd1 := (c'.bel.cell (p := ⟨V, 0, none⟩) hVR).trans hd0; clear hwr hfin hf2 Wn c' hq))
      go_wp2
      go_roundw
      case rel => exact hrel
      case measure => simp [intOf]
end Go.Proofs.YtaafimabgcnbaabGreatDoor
