/-
  Division of two words by one: the loops that mend a guess.
  Where the functions of Go's package math/bits lie in this program: LeadingZeros64, Len64, Len (the layings, in plain words).
  LeadingZeros64 off the shelf; the arithmetic of a division of two words by one.
  Div64: two words by one.
  A magnitude by one word: the loop.
  A magnitude by one word, whole.
-/
import Derived.Test.YtaafimabgcnbaabGreatDoorMS
import Derived.Test.YtaafimabgcnbaabGreatDoorProg
import Derived.Shelf.Small.Bits
import Derived.Shelf.Strconv.Itoa0
import Derived.Lib.ItoaNum
import Derived.Lib.EndianBits
set_option linter.all false
namespace Go.Proofs.YtaafimabgcnbaabGreatDoor
open Go Go.Rx Go.RowKit Go.Big
/-- A guess q of the quotient of u 2^32 + d by y1 2^32 + y0, and what it leaves of u. -/
structure GuessI (y1 y0 u d q r : Int) : Prop where
  eq : q * y1 + r = u
  ge : (u * 4294967296 + d) / (y1 * 4294967296 + y0) ≤ q
  nonneg : 0 ≤ q
  le : q ≤ 4294967297
  r : 0 ≤ r ∧ r < 4294967296
section
variable {y1 y0 u d q r : Int}
theorem true_quot (hy1 : 2147483648 ≤ y1 ∧ y1 < 4294967296) (hy0 : 0 ≤ y0 ∧ y0 < 4294967296) (hd : 0 ≤ d ∧ d < 4294967296) (hu : 0 ≤ u ∧ u < y1 * 4294967296 + y0) :
    0 ≤ (u * 4294967296 + d) / (y1 * 4294967296 + y0) ∧ (u * 4294967296 + d) / (y1 * 4294967296 + y0) < 4294967296 := by
  refine ⟨Int.ediv_nonneg (by omega) (by omega), ?_⟩
  apply Int.ediv_lt_of_lt_mul (by omega)
  omega
theorem num_eq (h : q * y1 + r = u) : u * 4294967296 + d = q * (y1 * 4294967296 + y0) + (4294967296 * r + d - q * y0) := by
  rw [← h, Int.mul_add, Int.add_mul, ← Int.mul_assoc]
  omega
/-- A guess that is not too large is the quotient. -/
theorem GuessI.stop (hi : GuessI y1 y0 u d q r) (hy1 : 2147483648 ≤ y1 ∧ y1 < 4294967296) (hy0 : 0 ≤ y0 ∧ y0 < 4294967296) (_ : 0 ≤ d ∧ d < 4294967296) (_ : 0 ≤ u ∧ u < y1 * 4294967296 + y0) (_ : q < 4294967296) (h : q * y0 ≤ 4294967296 * r + d) :
    q = (u * 4294967296 + d) / (y1 * 4294967296 + y0) := by
  have e := num_eq (y0 := y0) (d := d) hi.eq
  have h1 : q ≤ (u * 4294967296 + d) / (y1 * 4294967296 + y0) := by
    apply Int.le_ediv_of_mul_le (by omega)
    omega
  have := hi.ge
  omega
theorem GuessI.big (hi : GuessI y1 y0 u d q r) (hy1 : 2147483648 ≤ y1 ∧ y1 < 4294967296) (hy0 : 0 ≤ y0 ∧ y0 < 4294967296) (hd : 0 ≤ d ∧ d < 4294967296) (hu : 0 ≤ u ∧ u < y1 * 4294967296 + y0) (h : 4294967296 ≤ q ∨ 4294967296 * r + d < q * y0) :
    (u * 4294967296 + d) / (y1 * 4294967296 + y0) ≤ q - 1 := by
  have ht := (true_quot hy1 hy0 hd hu).2
  rcases h with h | h
  · omega
  · have e := num_eq (y0 := y0) (d := d) hi.eq
    have : (u * 4294967296 + d) / (y1 * 4294967296 + y0) < q := by
      apply Int.ediv_lt_of_lt_mul (by omega)
      omega
    omega
theorem GuessI.go (hi : GuessI y1 y0 u d q r) (hy1 : 2147483648 ≤ y1 ∧ y1 < 4294967296) (hy0 : 0 ≤ y0 ∧ y0 < 4294967296) (hd : 0 ≤ d ∧ d < 4294967296) (hu : 0 ≤ u ∧ u < y1 * 4294967296 + y0) (h : 4294967296 ≤ q ∨ 4294967296 * r + d < q * y0) (hx : r + y1 < 4294967296) :
    GuessI y1 y0 u d (q - 1) (r + y1) := by
  have h1 := hi.big hy1 hy0 hd hu h
  have h2 := (true_quot hy1 hy0 hd hu).1
  have h3 := hi.le
  have h4 := hi.r
  refine ⟨?_, h1, by omega, by omega, by omega⟩
  rw [Int.sub_mul, ← hi.eq]
  omega
theorem GuessI.cut (hi : GuessI y1 y0 u d q r) (hy1 : 2147483648 ≤ y1 ∧ y1 < 4294967296) (hy0 : 0 ≤ y0 ∧ y0 < 4294967296) (hd : 0 ≤ d ∧ d < 4294967296) (hu : 0 ≤ u ∧ u < y1 * 4294967296 + y0) (h : 4294967296 ≤ q ∨ 4294967296 * r + d < q * y0) (hx : 4294967296 ≤ r + y1) :
    q - 1 = (u * 4294967296 + d) / (y1 * 4294967296 + y0) := by
  have h1 := hi.big hy1 hy0 hd hu h
  have h2 := (true_quot hy1 hy0 hd hu).1
  have h3 := hi.le
  have e : (q - 1) * y1 + (r + y1) = u := by rw [Int.sub_mul, ← hi.eq]; omega
  have e' := num_eq (y0 := y0) (d := d) e
  have hb : (q - 1) * y0 ≤ 4294967296 * 4294967295 := Int.mul_le_mul (by omega) (by omega) hy0.1 (by decide)
  have : q - 1 ≤ (u * 4294967296 + d) / (y1 * 4294967296 + y0) := by
    apply Int.le_ediv_of_mul_le (by omega)
    omega
  omega
theorem GuessI.pos {A M : Int} (hi : GuessI y1 y0 u d q r) (hg : A < M) (hM : M = q * y0) (hA : A = 4294967296 * r + d) (hr : 0 ≤ r ∧ r < 4294967296) (hd : 0 ≤ d ∧ d < 4294967296) : 1 ≤ q := by
  have := hi.nonneg
  rcases Int.lt_or_le 0 q with h | h
  · omega
  · have : q = 0 := by omega
    subst this
    rw [Int.zero_mul] at hM
    omega
end
noncomputable def guess1L : Code := ((Tryz.f83.body.bind (findB 0)).getD .skip)
set_option maxHeartbeats 4000000 in
set_option maxRecDepth 100000 in
theorem guess1 {y1 y0 u d q0 r0 : Int} (hy1 : 2147483648 ≤ y1 ∧ y1 < 4294967296) (hy0 : 0 ≤ y0 ∧ y0 < 4294967296) (hd : 0 ≤ d ∧ d < 4294967296) (hu : 0 ≤ u ∧ u < y1 * 4294967296 + y0) (h0 : GuessI y1 y0 u d q0 r0) {tq : Int} (htq : tq = (u * 4294967296 + d) / (y1 * 4294967296 + y0))
    {w : World} (c0 c1 c2 c3 c4 c5 c6 c7 c8 c11 c12 c14 c17 c18 c19 c20 c21 c22 c23 c24 c25 c26 c27 c28 c29 c30 c31 c32 c33 c34 c35 c36 c37 c38 c39 c40 c41 c42 c43 c44 c45 c46 c47 c48 c49 c50 c51 c52 c53 c54 c55 c56 c57 c58 c59 c60 c61 c62 c63 c64 c65 c66 c86 c87 c88 c89 c90 c91 c92 c93 c94 c95 c96 c97 c98 c99 c100 c101 c102 c103 c104 c105 c106 c107 c108 c109 c110 c111 c112 c113 c114 c115 c116 c117 c118 c119 c120 c121 c122 c123 c124 c125 c126 c127 c128 c129 c130 c131 c132 c133 c134 u67 u68 u69 u70 u71 u72 u73 u74 u75 u76 u77 u78 u79 u80 u81 u82 u83 u84 u85 : Value) (Q : Exit → Act → World → Prop)
    (hQ : ∀ (u16 u67 u68 u69 u70 u71 u72 u73 u74 u75 u76 u77 u78 u79 u80 u81 u82 u83 u84 u85 : Value), Q (.exit 0) ⟨(List.toArray (c0 :: c1 :: c2 :: c3 :: c4 :: c5 :: c6 :: c7 :: c8 :: (.int .u64 y1) :: (.int .u64 y0) :: c11 :: c12 :: (.int .u64 d) :: c14 :: (.int .u64 tq) :: u16 :: c17 :: c18 :: c19 :: c20 :: c21 :: c22 :: c23 :: c24 :: c25 :: c26 :: c27 :: c28 :: c29 :: c30 :: c31 :: c32 :: c33 :: c34 :: c35 :: c36 :: c37 :: c38 :: c39 :: c40 :: c41 :: c42 :: c43 :: c44 :: c45 :: c46 :: c47 :: c48 :: c49 :: c50 :: c51 :: c52 :: c53 :: c54 :: c55 :: c56 :: c57 :: c58 :: c59 :: c60 :: c61 :: c62 :: c63 :: c64 :: c65 :: c66 :: u67 :: u68 :: u69 :: u70 :: u71 :: u72 :: u73 :: u74 :: u75 :: u76 :: u77 :: u78 :: u79 :: u80 :: u81 :: u82 :: u83 :: u84 :: u85 :: c86 :: c87 :: c88 :: c89 :: c90 :: c91 :: c92 :: c93 :: c94 :: c95 :: c96 :: c97 :: c98 :: c99 :: c100 :: c101 :: c102 :: c103 :: c104 :: c105 :: c106 :: c107 :: c108 :: c109 :: c110 :: c111 :: c112 :: c113 :: c114 :: c115 :: c116 :: c117 :: c118 :: c119 :: c120 :: c121 :: c122 :: c123 :: c124 :: c125 :: c126 :: c127 :: c128 :: c129 :: c130 :: c131 :: c132 :: c133 :: c134 :: [])), []⟩ w) :
    Code.wp Tryz.prog guess1L Q ⟨(List.toArray (c0 :: c1 :: c2 :: c3 :: c4 :: c5 :: c6 :: c7 :: c8 :: (.int .u64 y1) :: (.int .u64 y0) :: c11 :: c12 :: (.int .u64 d) :: c14 :: (.int .u64 q0) :: (.int .u64 r0) :: c17 :: c18 :: c19 :: c20 :: c21 :: c22 :: c23 :: c24 :: c25 :: c26 :: c27 :: c28 :: c29 :: c30 :: c31 :: c32 :: c33 :: c34 :: c35 :: c36 :: c37 :: c38 :: c39 :: c40 :: c41 :: c42 :: c43 :: c44 :: c45 :: c46 :: c47 :: c48 :: c49 :: c50 :: c51 :: c52 :: c53 :: c54 :: c55 :: c56 :: c57 :: c58 :: c59 :: c60 :: c61 :: c62 :: c63 :: c64 :: c65 :: c66 :: u67 :: u68 :: u69 :: u70 :: u71 :: u72 :: u73 :: u74 :: u75 :: u76 :: u77 :: u78 :: u79 :: u80 :: u81 :: u82 :: u83 :: u84 :: u85 :: c86 :: c87 :: c88 :: c89 :: c90 :: c91 :: c92 :: c93 :: c94 :: c95 :: c96 :: c97 :: c98 :: c99 :: c100 :: c101 :: c102 :: c103 :: c104 :: c105 :: c106 :: c107 :: c108 :: c109 :: c110 :: c111 :: c112 :: c113 :: c114 :: c115 :: c116 :: c117 :: c118 :: c119 :: c120 :: c121 :: c122 :: c123 :: c124 :: c125 :: c126 :: c127 :: c128 :: c129 :: c130 :: c131 :: c132 :: c133 :: c134 :: [])), []⟩ w := by
  conv => arg 2; whnf
  go_loop [15, 16] (fun a b => ∃ q r : Int, a = .int .u64 q ∧ b = .int .u64 r ∧ GuessI y1 y0 u d q r) (fun a b => (intOf a).toNat)
  case atStart => exact ⟨q0, r0, rfl, rfl, h0⟩
  case round =>
    obtain ⟨q, r, rfl, rfl, hi⟩ := hrel
    have hqn := hi.nonneg
    have hr := hi.r
    have hqb := hi.le
    have e2 : IntKind.u64.wrap (4294967296 * r) = 4294967296 * r := by rw [IntKind.wrap_u64]; omega
    have e3 : IntKind.u64.wrap (4294967296 * r + d) = 4294967296 * r + d := by rw [IntKind.wrap_u64]; omega
    have e5 : IntKind.u64.wrap (r + y1) = r + y1 := by rw [IntKind.wrap_u64]; omega
    obtain ⟨A, hA⟩ : ∃ A, A = 4294967296 * r + d := ⟨_, rfl⟩
    rw [← hA] at e3
    have HA := Lib.hid hA
    have hstop := hi.stop hy1 hy0 hd hu
    have hgo := hi.go hy1 hy0 hd hu
    have hcut := hi.cut hy1 hy0 hd hu
    have hpos := fun M h1 h2 h3 => hi.pos (A := A) (M := M) h1 h2 h3 hr hd
    rw [← hA] at hstop hgo hcut
    rw [← htq] at hstop hcut
    by_cases hb : 4294967296 ≤ q
    · have hq1 := hgo (.inl hb)
      have hc1 := hcut (.inl hb)
      have Hb := Lib.hid hb
      clear hstop hgo hcut hi h0 hA htq hpos
      by_cases hx : 4294967296 ≤ r + y1
      · have e4 : IntKind.u64.wrap (q - 1) = tq := by rw [← hc1 hx, IntKind.wrap_u64]; omega
        have Hx := Lib.hid hx
        clear hq1 hc1
        go_wp2
        try any_goals (exfalso; have h1 := Hb.out; have h2 := Hx.out; omega)
        exact hQ _ _ _ _ _ _ _ _ _ _ _ _ _ _ _ _ _ _ _ _
      · have e4 : IntKind.u64.wrap (q - 1) = q - 1 := by rw [IntKind.wrap_u64]; omega
        have hx' : r + y1 < 4294967296 := by omega
        have hq2 := hq1 hx'
        have Hx := Lib.hid hx'
        clear hq1 hc1
        go_wp2
        try any_goals (exfalso; have h1 := Hb.out; have h2 := Hx.out; omega)
        go_round
        case rel => exact ⟨q - 1, r + y1, rfl, rfl, hq2⟩
        case measure => have h1 := Hb.out; simp [intOf]; omega
    · have hb' : q < 4294967296 := by omega
      have hq0 := Int.mul_nonneg hqn hy0.1
      have hqy : q * y0 ≤ 4294967295 * 4294967295 := Int.mul_le_mul (by omega) (by omega) hy0.1 (by decide)
      have Hb := Lib.hid hb'
      obtain ⟨M, hM⟩ : ∃ M, M = q * y0 := ⟨_, rfl⟩
      have e1 : IntKind.u64.wrap (q * y0) = M := by rw [hM, IntKind.wrap_u64]; omega
      rw [← hM] at hstop hgo hcut
      by_cases hg : A < M
      · have hq1 := hgo (.inr hg)
        have hc1 := hcut (.inr hg)
        have hqp := hpos M hg hM hA
        have Hg := Lib.hid hg
        have Hq := Lib.hid hqp
        clear hstop hgo hcut hi h0 hA hM hqy hq0 htq hpos
        by_cases hx : 4294967296 ≤ r + y1
        · have e4 : IntKind.u64.wrap (q - 1) = tq := by rw [← hc1 hx, IntKind.wrap_u64]; omega
          have Hx := Lib.hid hx
          clear hq1 hc1
          go_wp2
          try any_goals (exfalso; have h1 := Hb.out; have h2 := Hx.out; have h3 := Hg.out; have h4 := HA.out; omega)
          exact hQ _ _ _ _ _ _ _ _ _ _ _ _ _ _ _ _ _ _ _ _
        · have e4 : IntKind.u64.wrap (q - 1) = q - 1 := by rw [IntKind.wrap_u64]; omega
          have hx' : r + y1 < 4294967296 := by omega
          have hq2 := hq1 hx'
          have Hx := Lib.hid hx'
          clear hq1 hc1
          go_wp2
          try any_goals (exfalso; have h1 := Hb.out; have h2 := Hx.out; have h3 := Hg.out; have h4 := HA.out; omega)
          go_round
          case rel => exact ⟨q - 1, r + y1, rfl, rfl, hq2⟩
          case measure => have h1 := Hq.out; simp [intOf]; omega
      · have hg' : M ≤ A := by omega
        have hs := hstop hb' (hM ▸ hg')
        have Hg := Lib.hid hg'
        clear hstop hgo hcut hi h0 hA hM hqy hq0 hpos hqb htq
        subst hs
        go_wp2
        try any_goals (exfalso; have h1 := Hb.out; have h3 := Hg.out; have h4 := HA.out; omega)
        exact hQ _ _ _ _ _ _ _ _ _ _ _ _ _ _ _ _ _ _ _ _
noncomputable def guess2L : Code := ((Tryz.f83.body.bind (findB 2)).getD .skip)
set_option maxHeartbeats 4000000 in
set_option maxRecDepth 100000 in
theorem guess2 {y1 y0 u d q0 r0 : Int} (hy1 : 2147483648 ≤ y1 ∧ y1 < 4294967296) (hy0 : 0 ≤ y0 ∧ y0 < 4294967296) (hd : 0 ≤ d ∧ d < 4294967296) (hu : 0 ≤ u ∧ u < y1 * 4294967296 + y0) (h0 : GuessI y1 y0 u d q0 r0) {tq : Int} (htq : tq = (u * 4294967296 + d) / (y1 * 4294967296 + y0))
    {w : World} (c0 c1 c2 c3 c4 c5 c6 c7 c8 c11 c12 c13 c15 c17 c19 c20 c21 c22 c23 c24 c25 c26 c27 c28 c29 c30 c31 c32 c33 c34 c35 c36 c37 c38 c39 c40 c41 c42 c43 c44 c45 c46 c47 c48 c49 c50 c51 c52 c53 c54 c55 c56 c57 c58 c59 c60 c61 c62 c63 c64 c65 c66 c67 c68 c69 c70 c71 c72 c73 c74 c75 c76 c77 c78 c79 c80 c81 c82 c83 c84 c85 c86 c87 c88 c89 c90 c91 c92 c93 c94 c95 c96 c97 c98 c99 c100 c101 c121 c122 c123 c124 c125 c126 c127 c128 c129 c130 c131 c132 c133 c134 u102 u103 u104 u105 u106 u107 u108 u109 u110 u111 u112 u113 u114 u115 u116 u117 u118 u119 u120 : Value) (Q : Exit → Act → World → Prop)
    (hQ : ∀ (u16 u102 u103 u104 u105 u106 u107 u108 u109 u110 u111 u112 u113 u114 u115 u116 u117 u118 u119 u120 : Value), Q (.exit 2) ⟨(List.toArray (c0 :: c1 :: c2 :: c3 :: c4 :: c5 :: c6 :: c7 :: c8 :: (.int .u64 y1) :: (.int .u64 y0) :: c11 :: c12 :: c13 :: (.int .u64 d) :: c15 :: u16 :: c17 :: (.int .u64 tq) :: c19 :: c20 :: c21 :: c22 :: c23 :: c24 :: c25 :: c26 :: c27 :: c28 :: c29 :: c30 :: c31 :: c32 :: c33 :: c34 :: c35 :: c36 :: c37 :: c38 :: c39 :: c40 :: c41 :: c42 :: c43 :: c44 :: c45 :: c46 :: c47 :: c48 :: c49 :: c50 :: c51 :: c52 :: c53 :: c54 :: c55 :: c56 :: c57 :: c58 :: c59 :: c60 :: c61 :: c62 :: c63 :: c64 :: c65 :: c66 :: c67 :: c68 :: c69 :: c70 :: c71 :: c72 :: c73 :: c74 :: c75 :: c76 :: c77 :: c78 :: c79 :: c80 :: c81 :: c82 :: c83 :: c84 :: c85 :: c86 :: c87 :: c88 :: c89 :: c90 :: c91 :: c92 :: c93 :: c94 :: c95 :: c96 :: c97 :: c98 :: c99 :: c100 :: c101 :: u102 :: u103 :: u104 :: u105 :: u106 :: u107 :: u108 :: u109 :: u110 :: u111 :: u112 :: u113 :: u114 :: u115 :: u116 :: u117 :: u118 :: u119 :: u120 :: c121 :: c122 :: c123 :: c124 :: c125 :: c126 :: c127 :: c128 :: c129 :: c130 :: c131 :: c132 :: c133 :: c134 :: [])), []⟩ w) :
    Code.wp Tryz.prog guess2L Q ⟨(List.toArray (c0 :: c1 :: c2 :: c3 :: c4 :: c5 :: c6 :: c7 :: c8 :: (.int .u64 y1) :: (.int .u64 y0) :: c11 :: c12 :: c13 :: (.int .u64 d) :: c15 :: (.int .u64 r0) :: c17 :: (.int .u64 q0) :: c19 :: c20 :: c21 :: c22 :: c23 :: c24 :: c25 :: c26 :: c27 :: c28 :: c29 :: c30 :: c31 :: c32 :: c33 :: c34 :: c35 :: c36 :: c37 :: c38 :: c39 :: c40 :: c41 :: c42 :: c43 :: c44 :: c45 :: c46 :: c47 :: c48 :: c49 :: c50 :: c51 :: c52 :: c53 :: c54 :: c55 :: c56 :: c57 :: c58 :: c59 :: c60 :: c61 :: c62 :: c63 :: c64 :: c65 :: c66 :: c67 :: c68 :: c69 :: c70 :: c71 :: c72 :: c73 :: c74 :: c75 :: c76 :: c77 :: c78 :: c79 :: c80 :: c81 :: c82 :: c83 :: c84 :: c85 :: c86 :: c87 :: c88 :: c89 :: c90 :: c91 :: c92 :: c93 :: c94 :: c95 :: c96 :: c97 :: c98 :: c99 :: c100 :: c101 :: u102 :: u103 :: u104 :: u105 :: u106 :: u107 :: u108 :: u109 :: u110 :: u111 :: u112 :: u113 :: u114 :: u115 :: u116 :: u117 :: u118 :: u119 :: u120 :: c121 :: c122 :: c123 :: c124 :: c125 :: c126 :: c127 :: c128 :: c129 :: c130 :: c131 :: c132 :: c133 :: c134 :: [])), []⟩ w := by
  conv => arg 2; whnf
  go_loop [16, 18] (fun a b => ∃ q r : Int, a = .int .u64 r ∧ b = .int .u64 q ∧ GuessI y1 y0 u d q r) (fun a b => (intOf b).toNat)
  case atStart => exact ⟨q0, r0, rfl, rfl, h0⟩
  case round =>
    obtain ⟨q, r, rfl, rfl, hi⟩ := hrel
    have hqn := hi.nonneg
    have hr := hi.r
    have hqb := hi.le
    have e2 : IntKind.u64.wrap (4294967296 * r) = 4294967296 * r := by rw [IntKind.wrap_u64]; omega
    have e3 : IntKind.u64.wrap (4294967296 * r + d) = 4294967296 * r + d := by rw [IntKind.wrap_u64]; omega
    have e5 : IntKind.u64.wrap (r + y1) = r + y1 := by rw [IntKind.wrap_u64]; omega
    obtain ⟨A, hA⟩ : ∃ A, A = 4294967296 * r + d := ⟨_, rfl⟩
    rw [← hA] at e3
    have HA := Lib.hid hA
    have hstop := hi.stop hy1 hy0 hd hu
    have hgo := hi.go hy1 hy0 hd hu
    have hcut := hi.cut hy1 hy0 hd hu
    have hpos := fun M h1 h2 h3 => hi.pos (A := A) (M := M) h1 h2 h3 hr hd
    rw [← hA] at hstop hgo hcut
    rw [← htq] at hstop hcut
    by_cases hb : 4294967296 ≤ q
    · have hq1 := hgo (.inl hb)
      have hc1 := hcut (.inl hb)
      have Hb := Lib.hid hb
      clear hstop hgo hcut hi h0 hA htq hpos
      by_cases hx : 4294967296 ≤ r + y1
      · have e4 : IntKind.u64.wrap (q - 1) = tq := by rw [← hc1 hx, IntKind.wrap_u64]; omega
        have Hx := Lib.hid hx
        clear hq1 hc1
        go_wp2
        try any_goals (exfalso; have h1 := Hb.out; have h2 := Hx.out; omega)
        exact hQ _ _ _ _ _ _ _ _ _ _ _ _ _ _ _ _ _ _ _ _
      · have e4 : IntKind.u64.wrap (q - 1) = q - 1 := by rw [IntKind.wrap_u64]; omega
        have hx' : r + y1 < 4294967296 := by omega
        have hq2 := hq1 hx'
        have Hx := Lib.hid hx'
        clear hq1 hc1
        go_wp2
        try any_goals (exfalso; have h1 := Hb.out; have h2 := Hx.out; omega)
        go_round
        case rel => exact ⟨q - 1, r + y1, rfl, rfl, hq2⟩
        case measure => have h1 := Hb.out; simp [intOf]; omega
    · have hb' : q < 4294967296 := by omega
      have hq0 := Int.mul_nonneg hqn hy0.1
      have hqy : q * y0 ≤ 4294967295 * 4294967295 := Int.mul_le_mul (by omega) (by omega) hy0.1 (by decide)
      have Hb := Lib.hid hb'
      obtain ⟨M, hM⟩ : ∃ M, M = q * y0 := ⟨_, rfl⟩
      have e1 : IntKind.u64.wrap (q * y0) = M := by rw [hM, IntKind.wrap_u64]; omega
      rw [← hM] at hstop hgo hcut
      by_cases hg : A < M
      · have hq1 := hgo (.inr hg)
        have hc1 := hcut (.inr hg)
        have hqp := hpos M hg hM hA
        have Hg := Lib.hid hg
        have Hq := Lib.hid hqp
        clear hstop hgo hcut hi h0 hA hM hqy hq0 htq hpos
        by_cases hx : 4294967296 ≤ r + y1
        · have e4 : IntKind.u64.wrap (q - 1) = tq := by rw [← hc1 hx, IntKind.wrap_u64]; omega
          have Hx := Lib.hid hx
          clear hq1 hc1
          go_wp2
          try any_goals (exfalso; have h1 := Hb.out; have h2 := Hx.out; have h3 := Hg.out; have h4 := HA.out; omega)
          exact hQ _ _ _ _ _ _ _ _ _ _ _ _ _ _ _ _ _ _ _ _
        · have e4 : IntKind.u64.wrap (q - 1) = q - 1 := by rw [IntKind.wrap_u64]; omega
          have hx' : r + y1 < 4294967296 := by omega
          have hq2 := hq1 hx'
          have Hx := Lib.hid hx'
          clear hq1 hc1
          go_wp2
          try any_goals (exfalso; have h1 := Hb.out; have h2 := Hx.out; have h3 := Hg.out; have h4 := HA.out; omega)
          go_round
          case rel => exact ⟨q - 1, r + y1, rfl, rfl, hq2⟩
          case measure => have h1 := Hq.out; simp [intOf]; omega
      · have hg' : M ≤ A := by omega
        have hs := hstop hb' (hM ▸ hg')
        have Hg := Lib.hid hg'
        clear hstop hgo hcut hi h0 hA hM hqy hq0 hpos hqb htq
        subst hs
        go_wp2
        try any_goals (exfalso; have h1 := Hb.out; have h3 := Hg.out; have h4 := HA.out; omega)
        exact hQ _ _ _ _ _ _ _ _ _ _ _ _ _ _ _ _ _ _ _ _
end Go.Proofs.YtaafimabgcnbaabGreatDoor
namespace Go.Proofs
open Go.Shelf
def Tryz.lays134_ren : Go.Shelf.Ren := ⟨fun | 134 => 95 | 129 => 100 | n => n, fun | 53 => 22 | 3 => 3 | 4 => 4 | 46 => 79 | 5 => 5 | 9 => 9 | n => n, fun | n => n⟩
theorem Tryz.lays134 : Go.Proofs.Lays.n134 Tryz.prog Tryz.lays134_ren := {
  mixed := by kernel_rfl
  f129 := Tryz.func100.trans (congrArg some (by kernel_rfl))
  f134 := Tryz.func95.trans (congrArg some (by kernel_rfl))
  t3 := Tryz.underlying3
  a3 := Tryz.isAgg3
  z3 := Tryz.sizeOf3
  v3 := Tryz.zeroValue3
  t4 := Tryz.underlying4
  a4 := Tryz.isAgg4
  z4 := Tryz.sizeOf4
  v4 := Tryz.zeroValue4
  t5 := Tryz.underlying5
  a5 := Tryz.isAgg5
  z5 := Tryz.sizeOf5
  v5 := Tryz.zeroValue5
  t9 := Tryz.underlying9
  a9 := Tryz.isAgg9
  z9 := Tryz.sizeOf9
  v9 := Tryz.zeroValue9
  t46 := Tryz.underlying79
  a46 := Tryz.isAgg79
  z46 := Tryz.sizeOf79
  v46 := Tryz.zeroValue79
  t53 := Tryz.underlying22
  a53 := Tryz.isAgg22
  z53 := Tryz.sizeOf22
  v53 := Tryz.zeroValue22 }
def Tryz.lays129_ren : Go.Shelf.Ren := ⟨fun | 129 => 100 | n => n, fun | 53 => 22 | 3 => 3 | 4 => 4 | 46 => 79 | 5 => 5 | 9 => 9 | n => n, fun | n => n⟩
theorem Tryz.lays129 : Go.Proofs.Lays.n129 Tryz.prog Tryz.lays129_ren := {
  mixed := by kernel_rfl
  f129 := Tryz.func100.trans (congrArg some (by kernel_rfl))
  t3 := Tryz.underlying3
  a3 := Tryz.isAgg3
  z3 := Tryz.sizeOf3
  v3 := Tryz.zeroValue3
  t4 := Tryz.underlying4
  a4 := Tryz.isAgg4
  z4 := Tryz.sizeOf4
  v4 := Tryz.zeroValue4
  t5 := Tryz.underlying5
  a5 := Tryz.isAgg5
  z5 := Tryz.sizeOf5
  v5 := Tryz.zeroValue5
  t9 := Tryz.underlying9
  a9 := Tryz.isAgg9
  z9 := Tryz.sizeOf9
  v9 := Tryz.zeroValue9
  t46 := Tryz.underlying79
  a46 := Tryz.isAgg79
  z46 := Tryz.sizeOf79
  v46 := Tryz.zeroValue79
  t53 := Tryz.underlying22
  a53 := Tryz.isAgg22
  z53 := Tryz.sizeOf22
  v53 := Tryz.zeroValue22 }
def Tryz.lays125_ren : Go.Shelf.Ren := ⟨fun | 125 => 75 | 128 => 99 | 129 => 100 | n => n, fun | 46 => 79 | 3 => 3 | 51 => 26 | 53 => 22 | 4 => 4 | 5 => 5 | 9 => 9 | n => n, fun | n => n⟩
theorem Tryz.lays125 : Go.Proofs.Lays.n125 Tryz.prog Tryz.lays125_ren := {
  mixed := by kernel_rfl
  f125 := Tryz.func75.trans (congrArg some (by kernel_rfl))
  f128 := Tryz.func99.trans (congrArg some (by kernel_rfl))
  f129 := Tryz.func100.trans (congrArg some (by kernel_rfl))
  t3 := Tryz.underlying3
  a3 := Tryz.isAgg3
  z3 := Tryz.sizeOf3
  v3 := Tryz.zeroValue3
  t4 := Tryz.underlying4
  a4 := Tryz.isAgg4
  z4 := Tryz.sizeOf4
  v4 := Tryz.zeroValue4
  t5 := Tryz.underlying5
  a5 := Tryz.isAgg5
  z5 := Tryz.sizeOf5
  v5 := Tryz.zeroValue5
  t9 := Tryz.underlying9
  a9 := Tryz.isAgg9
  z9 := Tryz.sizeOf9
  v9 := Tryz.zeroValue9
  t46 := Tryz.underlying79
  a46 := Tryz.isAgg79
  z46 := Tryz.sizeOf79
  v46 := Tryz.zeroValue79
  t51 := Tryz.underlying26
  a51 := Tryz.isAgg26
  z51 := Tryz.sizeOf26
  v51 := Tryz.zeroValue26
  t53 := Tryz.underlying22
  a53 := Tryz.isAgg22
  z53 := Tryz.sizeOf22
  v53 := Tryz.zeroValue22 }
end Go.Proofs
namespace Go.Proofs.YtaafimabgcnbaabGreatDoor
open Go Go.Rx Go.RowKit Go.Big
open Go.Shelf
theorem lead64_c (x : Int) (w : World) (h0 : 0 ≤ x) (h1 : x ≤ 18446744073709551615) :
    Calls Tryz.prog 95 #[.int .u64 x] w fun e w' => e = .returned (.int .i64 (64 - ↑(Lib.bitLen x.toNat))) ∧ w' = w := Any.bits_LeadingZeros64 Tryz.lays134 x w h0 h1
theorem lead_facts {y : Int} (hy : 0 < y ∧ y < 18446744073709551616) :
    ∃ n : Nat, (64 - ↑(Lib.bitLen y.toNat) : Int) = (n : Int) ∧ n ≤ 63 ∧ 9223372036854775808 ≤ y * (2 : Int) ^ n ∧ y * (2 : Int) ^ n < 18446744073709551616 := by
  obtain ⟨m, rfl⟩ := Int.eq_ofNat_of_zero_le (Int.le_of_lt hy.1)
  rw [Int.toNat_natCast]
  have h64 : (2 : Nat) ^ 64 = 18446744073709551616 := by decide
  have hm : m < 2 ^ 64 := by omega
  obtain ⟨l1, l2, l3⟩ := Lib.bitLenAux_bounds 64 m hm (by omega)
  have l4 : Lib.bitLen m ≤ 64 := Lib.bitLen_le m 64 (Nat.le_refl _) hm
  change 1 ≤ Lib.bitLen m at l1
  change 2 ^ (Lib.bitLen m - 1) ≤ m at l2
  change m < 2 ^ Lib.bitLen m at l3
  generalize Lib.bitLen m = L at *
  refine ⟨64 - L, by omega, by omega, ?_, ?_⟩
  · have := Nat.mul_le_mul_right (2 ^ (64 - L)) l2
    rw [← Nat.pow_add, show L - 1 + (64 - L) = 63 by omega] at this
    have h63 : (2 : Nat) ^ 63 = 9223372036854775808 := by decide
    have hc : ((m * 2 ^ (64 - L) : Nat) : Int) = (m : Int) * (2 : Int) ^ (64 - L) := by rw [Int.natCast_mul, Int.natCast_pow]; rfl
    rw [← hc]
    omega
  · have := Nat.mul_lt_mul_of_pos_right l3 (Nat.two_pow_pos (64 - L))
    rw [← Nat.pow_add, show L + (64 - L) = 64 by omega] at this
    have h64 : (2 : Nat) ^ 64 = 18446744073709551616 := by decide
    have hc : ((m * 2 ^ (64 - L) : Nat) : Int) = (m : Int) * (2 : Int) ^ (64 - L) := by rw [Int.natCast_mul, Int.natCast_pow]; rfl
    rw [← hc]
    omega
theorem pow_parts {n : Nat} (hn : n ≤ 63) : 1 ≤ (2 : Int) ^ n ∧ 1 ≤ (2 : Int) ^ (64 - n) ∧ (2 : Int) ^ n * (2 : Int) ^ (64 - n) = 18446744073709551616 := by
  refine ⟨?_, ?_, ?_⟩
  · have h : (0 : Int) < 2 ^ n := Int.pow_pos (by decide); omega
  · have h : (0 : Int) < 2 ^ (64 - n) := Int.pow_pos (by decide); omega
  · rw [← Int.pow_add, show n + (64 - n) = 64 by omega]; decide
/-- The dividend, shifted. -/
theorem shifted {hi lo y P R : Int} (hP : 1 ≤ P) (hR : 1 ≤ R) (hPR : P * R = 18446744073709551616) (hh : 0 ≤ hi ∧ hi < y) (hl : 0 ≤ lo ∧ lo < 18446744073709551616) :
    0 ≤ lo / R ∧ lo / R < P ∧ lo * P % 18446744073709551616 = lo % R * P ∧ (hi * P + lo / R) * 18446744073709551616 + lo % R * P = (hi * 18446744073709551616 + lo) * P ∧ hi * P + lo / R < y * P := by
  have d1 : 0 ≤ lo / R := Int.ediv_nonneg hl.1 (by omega)
  have d2 : lo / R < P := Int.ediv_lt_of_lt_mul (by omega) (by rw [hPR]; exact hl.2)
  have d3 := Int.emod_nonneg lo (show R ≠ 0 by omega)
  have d4 := Int.emod_lt_of_pos lo (show 0 < R by omega)
  have d5 : R * (lo / R) + lo % R = lo := Int.mul_ediv_add_emod lo R
  have d6 : lo * P = 18446744073709551616 * (lo / R) + lo % R * P := by
    rw [← hPR]
    conv => lhs; rw [← d5]
    rw [Int.add_mul, Int.mul_comm R, Int.mul_assoc, Int.mul_comm R P, Int.mul_comm (lo / R)]
  have d7 : 0 ≤ lo % R * P := Int.mul_nonneg d3 (by omega)
  have d8 : lo % R * P < 18446744073709551616 := by
    rw [← hPR, Int.mul_comm P R]
    exact Int.mul_lt_mul_of_pos_right d4 (by omega)
  have d9 : (hi + 1) * P ≤ y * P := Int.mul_le_mul_of_nonneg_right (by omega) (by omega)
  rw [Int.add_mul, Int.one_mul] at d9
  refine ⟨d1, d2, ?_, ?_, ?_⟩
  · rw [d6]; generalize lo % R * P = z at *; omega
  · rw [Int.add_mul (hi * 18446744073709551616), d6, Int.mul_assoc hi, Int.mul_comm 18446744073709551616 P, ← Int.mul_assoc hi]; generalize hi * P = a at *; generalize lo % R * P = z at *; omega
  · generalize hi * P = a at *; generalize y * P = b at *; omega
theorem guess_init {y1 y0 u d : Int} (hy1 : 2147483648 ≤ y1 ∧ y1 < 4294967296) (hy0 : 0 ≤ y0 ∧ y0 < 4294967296) (hd : 0 ≤ d ∧ d < 4294967296) (hu : 0 ≤ u ∧ u < y1 * 4294967296 + y0) : GuessI y1 y0 u d (u / y1) (u % y1) := by
  have e := Int.mul_ediv_add_emod u y1
  have r1 := Int.emod_nonneg u (show y1 ≠ 0 by omega)
  have r2 := Int.emod_lt_of_pos u (show 0 < y1 by omega)
  have q1 : 0 ≤ u / y1 := Int.ediv_nonneg hu.1 (by omega)
  refine ⟨by rw [Int.mul_comm]; exact e, ?_, q1, ?_, r1, by omega⟩
  · refine Int.le_of_lt_add_one (Int.ediv_lt_of_lt_mul (by omega) ?_)
    have h : 0 ≤ (u / y1 + 1) * y0 := Int.mul_nonneg (by omega) hy0.1
    rw [Int.mul_add, ← Int.mul_assoc, Int.add_mul, Int.one_mul, Int.mul_comm _ y1]
    generalize y1 * (u / y1) = a at *
    generalize (u / y1 + 1) * y0 = b at *
    omega
  · refine Int.le_of_lt_add_one (Int.ediv_lt_of_lt_mul (by omega) ?_)
    omega
theorem two_steps {N y P Y u d1 d0 : Int} (hP : 1 ≤ P) (hy : 0 < y) (hY : Y = y * P) (hN : (u * 4294967296 + d1) * 4294967296 + d0 = N * P) :
    (u * 4294967296 + d1) / Y * 4294967296 + ((u * 4294967296 + d1) % Y * 4294967296 + d0) / Y = N / y ∧ ((u * 4294967296 + d1) % Y * 4294967296 + d0) % Y / P = N % y := by
  have hYp : 0 < Y := by rw [hY]; exact Int.mul_pos hy (by omega)
  have hs : N * P = ((u * 4294967296 + d1) % Y * 4294967296 + d0) + (u * 4294967296 + d1) / Y * 4294967296 * Y := by
    rw [← hN]
    conv => lhs; rw [← Int.mul_ediv_add_emod (u * 4294967296 + d1) Y]
    rw [Int.mul_comm Y, Int.mul_assoc, Int.mul_comm 4294967296 Y, ← Int.mul_assoc]
    generalize (u * 4294967296 + d1) / Y * Y = a
    omega
  have h1 : N * P / Y = N / y := by rw [hY]; exact Int.mul_ediv_mul_of_pos_left _ _ (by omega)
  have h2 : N * P % Y = N % y * P := by rw [hY, Int.mul_comm N, Int.mul_comm y, Int.mul_emod_mul_of_pos _ _ (by omega), Int.mul_comm]
  rw [hs] at h1 h2
  rw [Int.add_mul_ediv_right _ _ (by omega)] at h1
  rw [Int.add_mul_emod_self_right] at h2
  refine ⟨by rw [Int.add_comm]; exact h1, ?_⟩
  rw [h2]
  exact Int.mul_ediv_cancel _ (by omega)
theorem or_parts {n : Nat} (hn : n ≤ 63) {a b : Int} (ha : 0 ≤ a) (hab : a * (2 : Int) ^ n < 18446744073709551616) (hb : 0 ≤ b) (hbn : b < (2 : Int) ^ n) : bits .or .u64 (a * (2 : Int) ^ n) b = a * (2 : Int) ^ n + b := by
  obtain ⟨hp, hr, hpr⟩ := pow_parts hn
  have h64 : (2 : Int) ^ 64 = 18446744073709551616 := by decide
  have hle : (2 : Int) ^ n ≤ 18446744073709551616 := by
    rw [← hpr]
    have := Int.mul_le_mul_of_nonneg_left hr (show 0 ≤ (2 : Int) ^ n by omega)
    omega
  refine bits_join .u64 64 (by decide) wraps_u64 n _ _ (Int.mul_nonneg ha (by omega)) (Int.mul_emod_left _ _) (by rw [h64]; exact hab) hb hbn (by rw [h64]; omega)
#print axioms lead64_c
end Go.Proofs.YtaafimabgcnbaabGreatDoor
namespace Go.Proofs.YtaafimabgcnbaabGreatDoor
open Go Go.Rx Go.RowKit Go.Big
set_option maxHeartbeats 2000000 in
set_option maxRecDepth 100000 in
theorem div64_zero {lo y : Int} (hl : 0 ≤ lo ∧ lo < 18446744073709551616) (hy : 0 < y ∧ y < 18446744073709551616) (w : World) :
    Calls Tryz.prog 83 #[.int .u64 0, .int .u64 lo, .int .u64 y] w fun e w' => e = .returned (.tuple #[.int .u64 (lo / y), .int .u64 (lo % y)]) ∧ w' = w.drew := by
  have hl1 := hl.1
  have hy1 := hy.1
  have q1 : Int.tdiv lo y = lo / y := Int.tdiv_eq_ediv_of_nonneg hl1
  have q2 : Int.tmod lo y = lo % y := Int.tmod_eq_emod_of_nonneg hl1
  have p1 : 0 ≤ lo / y := Int.ediv_nonneg hl1 (by omega)
  have p2 : lo / y ≤ lo := Int.ediv_le_self _ hl1
  have p3 : 0 ≤ lo % y := Int.emod_nonneg _ (by omega)
  have p4 : lo % y < y := Int.emod_lt_of_pos _ hy1
  have w1 : IntKind.u64.wrap (lo / y) = lo / y := by rw [IntKind.wrap_u64]; omega
  have w2 : IntKind.u64.wrap (lo % y) = lo % y := by rw [IntKind.wrap_u64]; omega
  go_enter Tryz.func83, Tryz.ntmps83
  go_wp2
  go_region_with (fail)
  all_goals (go_wp2; go_ret2; exact ⟨rfl, rfl⟩)
set_option maxHeartbeats 4000000 in
set_option maxRecDepth 100000 in
theorem div64_walk {n : Nat} {hi lo y Y H D L U Y1 Y0 D1 D0 Q R A1 A2 B1 U2 Q2 R2 A3 A4 B2 RR : Int} (hn : n ≤ 63)
    (hh : 0 < hi ∧ hi < y) (hl : 0 ≤ lo ∧ lo < 18446744073709551616) (hy : y < 18446744073709551616)
    (hz : (64 - ↑(Lib.bitLen y.toNat) : Int) = (n : Int))
    (e1 : IntKind.u64.wrap (y * 2 ^ n) = Y) (e2 : IntKind.u64.wrap (hi * 2 ^ n) = H) (e3 : IntKind.u64.wrap (lo * 2 ^ n) = D)
    (e4 : lo / 2 ^ (64 - n) = L) (e5 : bits .or .u64 H L = U) (e6 : Y / 4294967296 = Y1) (e7 : bits .and .u64 Y 4294967295 = Y0)
    (e8 : D / 4294967296 = D1) (e9 : bits .and .u64 D 4294967295 = D0)
    (hy1 : 2147483648 ≤ Y1 ∧ Y1 < 4294967296) (hy0 : 0 ≤ Y0 ∧ Y0 < 4294967296) (hd1 : 0 ≤ D1 ∧ D1 < 4294967296) (hd0 : 0 ≤ D0 ∧ D0 < 4294967296) (hu : 0 ≤ U ∧ U < Y1 * 4294967296 + Y0) (hu2 : 0 ≤ U2 ∧ U2 < Y1 * 4294967296 + Y0)
    (f1 : IntKind.u64.wrap (U.tdiv Y1) = Q) (f2 : IntKind.u64.wrap (U - IntKind.u64.wrap (Q * Y1)) = R) (hg : GuessI Y1 Y0 U D1 Q R) {T1 : Int} (ht1 : (U * 4294967296 + D1) / (Y1 * 4294967296 + Y0) = T1)
    (f3 : IntKind.u64.wrap (U * 4294967296) = A1) (f4 : IntKind.u64.wrap (A1 + D1) = A2) (f5 : IntKind.u64.wrap (T1 * Y) = B1) (f6 : IntKind.u64.wrap (A2 - B1) = U2)
    (f7 : IntKind.u64.wrap (U2.tdiv Y1) = Q2) (f8 : IntKind.u64.wrap (U2 - IntKind.u64.wrap (Q2 * Y1)) = R2) (hg2 : GuessI Y1 Y0 U2 D0 Q2 R2) {T2 : Int} (ht2 : (U2 * 4294967296 + D0) / (Y1 * 4294967296 + Y0) = T2)
    (f9 : IntKind.u64.wrap (U2 * 4294967296) = A3) (f10 : IntKind.u64.wrap (A3 + D0) = A4) (f11 : IntKind.u64.wrap (T2 * Y) = B2) (f12 : IntKind.u64.wrap (A4 - B2) = RR)
    (ht1b : 0 ≤ T1 ∧ T1 < 4294967296) (ht2b : 0 ≤ T2 ∧ T2 < 4294967296) (hrr : 0 ≤ RR) (w : World) :
    Calls Tryz.prog 83 #[.int .u64 hi, .int .u64 lo, .int .u64 y] w fun e w' => e = .returned (.tuple #[.int .u64 (T1 * 4294967296 + T2), .int .u64 (RR / 2 ^ n)]) ∧ w' = w := by
  have hy2 : 0 < y := by omega
  go_enter Tryz.func83, Tryz.ntmps83
  go_wp2_with fail
  refine (lead64_c _ _ (by omega) (by omega)).mono ?_
  rintro e w1 ⟨rfl, rfl⟩
  rw [hz]
  have hn1 : (n : Int) ≤ 63 := by omega
  have hn0 : (0 : Int) ≤ n := by omega
  have hnz : ¬ Y1 = 0 := by omega
  go_wp2
  refine guess1 hy1 hy0 hd1 hu hg ht1.symm _ _ _ _ _ _ _ _ _ _ _ _ _ _ _ _ _ _ _ _ _ _ _ _ _ _ _ _ _ _ _ _ _ _ _ _ _ _ _ _ _ _ _ _ _ _ _ _ _ _ _ _ _ _ _ _ _ _ _ _ _ _ _ _ _ _ _ _ _ _ _ _ _ _ _ _ _ _ _ _ _ _ _ _ _ _ _ _ _ _ _ _ _ _ _ _ _ _ _ _ _ _ _ _ _ _ _ _ _ _ _ _ _ _ _ _ _ _ _ _ _ _ _ _ _ _ _ _ _ _ _ (fun v16 v67 v68 v69 v70 v71 v72 v73 v74 v75 v76 v77 v78 v79 v80 v81 v82 v83 v84 v85 => ?_)
  clear hg hu ht1 f1 f2 e1 e2 e3 e5 e7 e9
  go_wp2
  refine guess2 hy1 hy0 hd0 hu2 hg2 ht2.symm _ _ _ _ _ _ _ _ _ _ _ _ _ _ _ _ _ _ _ _ _ _ _ _ _ _ _ _ _ _ _ _ _ _ _ _ _ _ _ _ _ _ _ _ _ _ _ _ _ _ _ _ _ _ _ _ _ _ _ _ _ _ _ _ _ _ _ _ _ _ _ _ _ _ _ _ _ _ _ _ _ _ _ _ _ _ _ _ _ _ _ _ _ _ _ _ _ _ _ _ _ _ _ _ _ _ _ _ _ _ _ _ _ _ _ _ _ _ _ _ _ _ _ _ _ _ _ _ _ _ _ (fun v16 v102 v103 v104 v105 v106 v107 v108 v109 v110 v111 v112 v113 v114 v115 v116 v117 v118 v119 v120 => ?_)
  clear hg2 hu2 ht2 f7 f8 f3 f4 f5 f6
  go_wp2
  go_ret2
  exact ⟨rfl, rfl⟩
/-- The quotient and the remainder of two words by one. -/
theorem div64_c {hi lo y : Int} (hh : 0 ≤ hi ∧ hi < y) (hl : 0 ≤ lo ∧ lo < 18446744073709551616) (hy : y < 18446744073709551616) (w : World) :
    Calls Tryz.prog 83 #[.int .u64 hi, .int .u64 lo, .int .u64 y] w fun e w' => e = .returned (.tuple #[.int .u64 ((hi * 18446744073709551616 + lo) / y), .int .u64 ((hi * 18446744073709551616 + lo) % y)]) ∧ (w' = w ∨ w' = w.drew) := by
  by_cases h0 : hi = 0
  · subst h0
    rw [Int.zero_mul, Int.zero_add]
    exact (div64_zero hl ⟨hh.2, hy⟩ w).mono fun e w' h => ⟨h.1, .inr h.2⟩
  obtain ⟨n, hz, hn, hY1, hY2⟩ := lead_facts (y := y) ⟨by omega, hy⟩
  obtain ⟨hP, hR, hPR⟩ := pow_parts hn
  obtain ⟨s1, s2, s3, s4, s5⟩ := shifted hP hR hPR hh hl
  have hor := or_parts hn (a := hi) (b := lo / 2 ^ (64 - n)) hh.1 (by omega) s1 s2
  have hH0 : 0 ≤ hi * 2 ^ n := Int.mul_nonneg hh.1 (by omega)
  have hD0 : 0 ≤ lo * 2 ^ n % 18446744073709551616 := Int.emod_nonneg _ (by decide)
  have hD1 : lo * 2 ^ n % 18446744073709551616 < 18446744073709551616 := Int.emod_lt_of_pos _ (by decide)
  have e3 : IntKind.u64.wrap (lo * 2 ^ n) = lo * 2 ^ n % 18446744073709551616 := IntKind.wrap_u64 _
  rw [← s3] at s4
  have e1 : IntKind.u64.wrap (y * 2 ^ n) = y * 2 ^ n := by rw [IntKind.wrap_u64]; omega
  have e2 : IntKind.u64.wrap (hi * 2 ^ n) = hi * 2 ^ n := by rw [IntKind.wrap_u64]; omega
  obtain ⟨Y, hY⟩ : ∃ Y, Y = y * (2 : Int) ^ n := ⟨_, rfl⟩
  obtain ⟨H, hH⟩ : ∃ H, H = hi * (2 : Int) ^ n := ⟨_, rfl⟩
  obtain ⟨D, hD⟩ : ∃ D, D = lo * (2 : Int) ^ n % 18446744073709551616 := ⟨_, rfl⟩
  obtain ⟨L, hL⟩ : ∃ L, L = lo / (2 : Int) ^ (64 - n) := ⟨_, rfl⟩
  rw [← hY] at hY1 hY2 s5
  rw [← hH] at hor hH0 s4 s5
  rw [← hD] at hD0 hD1 s4
  rw [← hL] at hor s1 s2 s4 s5
  obtain ⟨U, hU⟩ : ∃ U, U = H + L := ⟨_, rfl⟩
  rw [← hU] at hor s4 s5
  have hU0 : 0 ≤ U := by omega
  have e7 := and_low32 Y (by omega) hY2
  have e9 := and_low32 D hD0 hD1
  obtain ⟨Y1, hy1⟩ : ∃ Y1, Y1 = Y / 4294967296 := ⟨_, rfl⟩
  obtain ⟨Y0, hy0⟩ : ∃ Y0, Y0 = Y % 4294967296 := ⟨_, rfl⟩
  obtain ⟨D1, hd1⟩ : ∃ D1, D1 = D / 4294967296 := ⟨_, rfl⟩
  obtain ⟨D0, hd0⟩ : ∃ D0, D0 = D % 4294967296 := ⟨_, rfl⟩
  rw [← hy0] at e7
  rw [← hd0] at e9
  have b1 : 2147483648 ≤ Y1 ∧ Y1 < 4294967296 := by omega
  have b0 : 0 ≤ Y0 ∧ Y0 < 4294967296 := by omega
  have c1 : 0 ≤ D1 ∧ D1 < 4294967296 := by omega
  have c0 : 0 ≤ D0 ∧ D0 < 4294967296 := by omega
  have hYY : Y1 * 4294967296 + Y0 = Y := by omega
  have hYp : 0 < Y := by omega
  have hu : 0 ≤ U ∧ U < Y1 * 4294967296 + Y0 := by omega
  have m1 := Int.emod_nonneg (U * 4294967296 + D1) (show Y ≠ 0 by omega)
  have m2 := Int.emod_lt_of_pos (U * 4294967296 + D1) hYp
  have hu2 : 0 ≤ (U * 4294967296 + D1) % Y ∧ (U * 4294967296 + D1) % Y < Y1 * 4294967296 + Y0 := by omega
  have hts := two_steps (N := hi * 18446744073709551616 + lo) (y := y) (P := 2 ^ n) (Y := Y) (u := U) (d1 := D1) (d0 := D0) hP (by omega) hY (by rw [← s4]; omega)
  have t1 := true_quot b1 b0 c1 hu
  have t2 := true_quot b1 b0 c0 hu2
  rw [hYY] at t1 t2
  have k1 := Int.mul_ediv_add_emod (U * 4294967296 + D1) Y
  have k2 := Int.mul_ediv_add_emod ((U * 4294967296 + D1) % Y * 4294967296 + D0) Y
  have n1 := Int.emod_nonneg ((U * 4294967296 + D1) % Y * 4294967296 + D0) (show Y ≠ 0 by omega)
  have n2 := Int.emod_lt_of_pos ((U * 4294967296 + D1) % Y * 4294967296 + D0) hYp
  have g1 := guess_init b1 b0 c1 hu
  have g2 := guess_init b1 b0 c0 hu2
  obtain ⟨hA, hB⟩ := hts
  rw [← hA, ← hB]
  have tq : ∀ V : Int, 0 ≤ V → V < Y1 * 4294967296 + Y0 → IntKind.u64.wrap (V.tdiv Y1) = V / Y1 ∧ IntKind.u64.wrap (V - IntKind.u64.wrap (V / Y1 * Y1)) = V % Y1 := fun V h1 h2 => by
    have a1 : 0 ≤ V / Y1 := Int.ediv_nonneg h1 (by omega)
    have a2 : V / Y1 ≤ V := Int.ediv_le_self _ h1
    have a3 := Int.mul_ediv_add_emod V Y1
    have a4 := Int.emod_nonneg V (show Y1 ≠ 0 by omega)
    have a5 := Int.emod_lt_of_pos V (show 0 < Y1 by omega)
    have a6 : 0 ≤ V / Y1 * Y1 := Int.mul_nonneg a1 (by omega)
    rw [Int.mul_comm] at a3
    rw [Int.tdiv_eq_ediv_of_nonneg h1]
    generalize V / Y1 * Y1 = a at *
    simp only [IntKind.wrap_u64]
    omega
  obtain ⟨p1, p2⟩ := tq U hu.1 hu.2
  obtain ⟨p3, p4⟩ := tq _ hu2.1 hu2.2
  clear tq
  rw [Int.mul_comm Y] at k1 k2
  refine (div64_walk (U2 := (U * 4294967296 + D1) % Y) (RR := ((U * 4294967296 + D1) % Y * 4294967296 + D0) % Y) hn ⟨by omega, hh.2⟩ hl hy hz (e1.trans hY.symm) (e2.trans hH.symm) (e3.trans hD.symm) hL.symm hor hy1.symm e7 hd1.symm e9 b1 b0 c1 c0 hu hu2 p1 p2 g1 (by rw [hYY]) rfl rfl rfl ?_ p3 p4 g2 (by rw [hYY]) rfl rfl rfl ?_ t1 t2 n1 w).mono fun e w' h => ⟨h.1, .inl h.2⟩
  · generalize (U * 4294967296 + D1) / Y * Y = a at *
    generalize (U * 4294967296 + D1) % Y = b at *
    simp only [IntKind.wrap_u64]
    omega
  · generalize ((U * 4294967296 + D1) % Y * 4294967296 + D0) / Y * Y = a at *
    generalize ((U * 4294967296 + D1) % Y * 4294967296 + D0) % Y = c at *
    generalize (U * 4294967296 + D1) % Y = b at *
    simp only [IntKind.wrap_u64]
    omega
/-- .. as a contract of the walk. -/
theorem div64_g {hi lo y : Int} (hh : 0 ≤ hi ∧ hi < y) (hl : 0 ≤ lo ∧ lo < 18446744073709551616) (hy : y < 18446744073709551616) (w : World) :
    Calls Tryz.prog 83 #[.int .u64 hi, .int .u64 lo, .int .u64 y] w (Gets (fun _ r => r = .tuple #[.int .u64 ((hi * 18446744073709551616 + lo) / y), .int .u64 ((hi * 18446744073709551616 + lo) % y)]) w) :=
  (div64_c hh hl hy w).mono fun e w' h => ⟨_, h.1, rfl, by
    rcases h.2 with rfl | rfl
    · exact Below.refl _ _
    · exact (Below.refl _ _).drew⟩
#print axioms div64_g
end Go.Proofs.YtaafimabgcnbaabGreatDoor
namespace Go.Proofs.YtaafimabgcnbaabGreatDoor
open Go Go.Rx Go.RowKit Go.Big
attribute [local instance] noAv
/-- Eight cells hold these words; below block C all is as it was. -/
structure Cells8 (C : Nat) (qs : List Int) (w w' : World) : Prop where
  bel : Below C w w'
  cells : w'.heap[C]? = some (.cells (qs.map (Value.int .u64)).toArray 59)
/-- The words above place k have been divided. -/
structure DivK (ms : List Int) (n : Int) (k : Nat) (R : Int) (qs : List Int) : Prop where
  len : qs.length = 8
  good : wgood qs
  zero : ∀ j, j < k → qs.getD j 0 = 0
  rest : 0 ≤ R ∧ R < n
  sum : wval (ms.take k) + R * pw (2 * k) + wval qs * n = wval ms
theorem DivK.step {ms : List Int} {n R : Int} {i : Nat} {qs : List Int} (h : DivK ms n (i + 1) R qs) (hn : n < 18446744073709551616) (hi : i < 8) (hl : ms.length = 8) (hg : wgood ms) :
    DivK ms n i ((R * 18446744073709551616 + ms.getD i 0) % n) (qs.set i ((R * 18446744073709551616 + ms.getD i 0) / n)) := by
  have hx := wgood_get hg i
  have hr := h.rest
  have a1 : 0 ≤ (R * 18446744073709551616 + ms.getD i 0) / n := Int.ediv_nonneg (by omega) (by omega)
  have a2 : (R * 18446744073709551616 + ms.getD i 0) / n < 18446744073709551616 := Int.ediv_lt_of_lt_mul (by omega) (by omega)
  have a3 := Int.mul_ediv_add_emod (R * 18446744073709551616 + ms.getD i 0) n
  have a4 := Int.emod_nonneg (R * 18446744073709551616 + ms.getD i 0) (show n ≠ 0 by omega)
  have a5 := Int.emod_lt_of_pos (R * 18446744073709551616 + ms.getD i 0) (show 0 < n by omega)
  refine ⟨by simpa using h.len, wgood_set h.good i ⟨a1, a2⟩, fun j hj => ?_, ⟨a4, a5⟩, ?_⟩
  · have := h.zero j (by omega)
    rw [List.getD_eq_getElem?_getD] at this ⊢
    rw [List.getElem?_set_ne (by omega)]
    exact this
  · have hs := h.sum
    rw [wval_take_succ ms i (by omega), show 2 * (i + 1) = 2 + 2 * i by omega, pw_add, show pw 2 = 18446744073709551616 by decide] at hs
    rw [wval_set _ _ _ (by rw [h.len]; exact hi), h.zero i (by omega), Int.sub_zero]
    generalize ms.getD i 0 = x at *
    generalize (R * 18446744073709551616 + x) / n = q at *
    generalize (R * 18446744073709551616 + x) % n = r at *
    generalize pw (2 * i) = p at *
    generalize wval (ms.take i) = V at *
    generalize wval qs = W at *
    generalize wval ms = T at *
    rw [← hs]
    have e : r * p + q * p * n = x * p + R * (18446744073709551616 * p) := by
      rw [← Int.mul_assoc R, Int.mul_assoc q, Int.mul_comm p n, ← Int.mul_assoc q, ← Int.add_mul, ← Int.add_mul]
      congr 1
      rw [Int.mul_comm q]
      omega
    rw [Int.add_mul]
    omega
noncomputable def wordL : Code := ((Tryz.f56.body.bind (findB 0)).getD .skip)
set_option maxHeartbeats 4000000 in
set_option maxRecDepth 100000 in
theorem word_loop {C A L : Nat} {ms : List Int} {n : Int} (hL : L ≤ 8) (hms : wgood ms) (hml : ms.length = 8) (hn : 0 < n ∧ n < 18446744073709551616) (hmL : wval (ms.take L) = wval ms)
    {w0 w : World} (hA : A < C) (hm : ∀ j, j < 8 → w0.cell? ⟨A, j, none⟩ = some (.int .u64 (ms.getD j 0))) (hC0 : Cells8 C (List.replicate 8 0) w0 w)
    (c0 c3 c7 c8 c9 c25 c26 u10 u11 u12 u13 u14 u15 u16 u17 u18 u19 u20 u21 u22 u23 u24 : Value) (Q : Exit → Act → World → Prop)
    (hQ : ∀ (R : Int) (qs : List Int) (u6 u10 u11 u12 u13 u14 u15 u16 u17 u18 u19 u20 u21 u22 u23 u24 : Value) (W : World), DivK ms n 0 R qs → Cells8 C qs w0 W → Q (.exit 0) ⟨(List.toArray (c0 :: (.int .u64 n) :: (.pointer (some ⟨A, 0, none⟩)) :: c3 :: (.pointer (some ⟨C, 0, none⟩)) :: (.int .u64 R) :: u6 :: c7 :: c8 :: c9 :: u10 :: u11 :: u12 :: u13 :: u14 :: u15 :: u16 :: u17 :: u18 :: u19 :: u20 :: u21 :: u22 :: u23 :: u24 :: c25 :: c26 :: [])), []⟩ W) :
    Code.wp Tryz.prog wordL Q ⟨(List.toArray (c0 :: (.int .u64 n) :: (.pointer (some ⟨A, 0, none⟩)) :: c3 :: (.pointer (some ⟨C, 0, none⟩)) :: (.int .u64 0) :: (.int .i64 ((L : Nat) - 1)) :: c7 :: c8 :: c9 :: u10 :: u11 :: u12 :: u13 :: u14 :: u15 :: u16 :: u17 :: u18 :: u19 :: u20 :: u21 :: u22 :: u23 :: u24 :: c25 :: c26 :: [])), []⟩ w := by
  conv => arg 2; whnf
  go_loopw [5, 6] (fun r a W => ∃ (R : Int) (k : Nat) (qs : List Int), r = .int .u64 R ∧ a = .int .i64 ((k : Int) - 1) ∧ k ≤ 8 ∧ DivK ms n k R qs ∧ Cells8 C qs w0 W) (fun _ a _ => (intOf a + 1).toNat)
  case atStart =>
    refine ⟨0, L, List.replicate 8 0, rfl, rfl, hL, ⟨rfl, fun x hx => by rw [List.eq_of_mem_replicate hx]; decide, fun j _ => by rw [List.getD_eq_getElem?_getD, List.getElem?_replicate]; split <;> rfl, ⟨Int.le_refl _, hn.1⟩, ?_⟩, hC0⟩
    rw [wval_zero, hmL, Int.zero_mul, Int.zero_mul, Int.add_zero, Int.add_zero]
  case round =>
    obtain ⟨R, k, qs, rfl, rfl, hk, hd, hc⟩ := hrel
    by_cases hk0 : k = 0
    · subst hk0
      clear hms hml hmL hm hC0
      go_wp2
      exact hQ _ _ _ _ _ _ _ _ _ _ _ _ _ _ _ _ _ _ _ hd hc
    · obtain ⟨i, rfl⟩ : ∃ i, k = i + 1 := ⟨k - 1, by omega⟩
      rw [show ((i + 1 : Nat) : Int) - 1 = (i : Int) by omega]
      have hi8 : (i : Int) < 8 := by omega
      have hi0 : (0 : Int) ≤ (i : Int) := by omega
      have hx := wgood_get hms i
      have hcell : wr.cell? ⟨A, i, none⟩ = some (.int .u64 (ms.getD i 0)) := (hc.bel.cell (p := ⟨A, i, none⟩) hA).trans (hm i (by omega))
      have hr := hd.rest
      have hd1 := hd.step hn.2 (by omega) hml hms
      have D := fun w => div64_g (hi := R) (lo := ms.getD i 0) (y := n) hr hx hn.2 w
      have hql := hd.len
      have hfin : ∀ W1, Below wr.heap.size wr W1 → ∃ (R' : Int) (k : Nat) (qs' : List Int), Value.int .u64 ((R * 18446744073709551616 + ms.getD i 0) % n) = .int .u64 R' ∧ Value.int .i64 ((i : Int) - 1) = .int .i64 ((k : Int) - 1) ∧ k ≤ 8 ∧ DivK ms n k R' qs' ∧ Cells8 C qs' w0 (W1.setCell ⟨C, i, none⟩ (.int .u64 ((R * 18446744073709551616 + ms.getD i 0) / n))) := fun W1 hb => by
        refine ⟨_, i, _, rfl, rfl, by omega, hd1, ⟨?_, ?_⟩⟩
        · exact (hc.bel.trans (hb.mono (Nat.le_of_lt (Array.getElem?_eq_some_iff.1 hc.cells).1))).setCell (p := ⟨C, i, none⟩) (Nat.le_refl C) _
        · rw [heap_setCell_same W1 C i _ 59 _ ((hb.block C (Array.getElem?_eq_some_iff.1 hc.cells).1).trans hc.cells)]
          simp [List.map_set]
      have hf2 : ∀ W1, Below wr.heap.size wr W1 → W1.cell? ⟨C, i, none⟩ = some (.int .u64 (qs.getD i 0)) ∧ W1.frozen? ⟨C, i, none⟩ = false := fun W1 hb => by
        have hcl := (hb.block C (Array.getElem?_eq_some_iff.1 hc.cells).1).trans hc.cells
        exact ⟨by rw [cellOf hcl]; exact col_words (by omega), frozenOf hcl⟩
      clear hd hd1 hC0 hm hmL hml hms hc
      generalize ms.getD i 0 = x at *
      generalize (R * 18446744073709551616 + x) / n = q at *
      generalize (R * 18446744073709551616 + x) % n = r at *
      go_wp2_with fail
      with_reducible refine (D _).mono ?_
      rintro e W1 ⟨v, rfl, rfl, hb⟩
      have hfin1 := hfin W1 hb
      obtain ⟨g1, g2⟩ := hf2 W1 hb
      clear hfin hf2 D hcell
      go_wp2
      go_roundw
      case rel => exact hfin1
      case measure => simp [intOf]
end Go.Proofs.YtaafimabgcnbaabGreatDoor
namespace Go.Proofs.YtaafimabgcnbaabGreatDoor
open Go Go.Rx Go.RowKit Go.Big
attribute [local instance] noAv
/-- Quotient and remainder of the words ms by n. -/
def DivWR (ms : List Int) (n : Int) (r : Value) : Prop := ∃ (qs : List Int) (R : Int), qs.length = 8 ∧ wgood qs ∧ 0 ≤ R ∧ R < n ∧ R + wval qs * n = wval ms ∧ r = .tuple #[.agg (qs.map (Value.int .u64)).toArray, .int .u64 R]
set_option maxHeartbeats 4000000 in
set_option maxRecDepth 100000 in
theorem divWord_c {w : World} {m0 m1 m2 m3 m4 m5 m6 m7 n : Int} {L : Nat} (hL : L ≤ 8) (hms : wgood [m0, m1, m2, m3, m4, m5, m6, m7]) (hmL : wval (([m0, m1, m2, m3, m4, m5, m6, m7] : List Int).take L) = wval [m0, m1, m2, m3, m4, m5, m6, m7]) (hn : 0 < n ∧ n < 18446744073709551616)
    (hlm : ∀ W, Calls Tryz.prog 72 #[.agg #[.int .u64 m0, .int .u64 m1, .int .u64 m2, .int .u64 m3, .int .u64 m4, .int .u64 m5, .int .u64 m6, .int .u64 m7]] W (Gets (fun _ r => r = .int .i64 L) W)) :
    Calls Tryz.prog 56 #[.agg #[.int .u64 m0, .int .u64 m1, .int .u64 m2, .int .u64 m3, .int .u64 m4, .int .u64 m5, .int .u64 m6, .int .u64 m7], .int .u64 n] w (Gets (fun _ r => DivWR [m0, m1, m2, m3, m4, m5, m6, m7] n r) w) := by
  have hL0 : (0 : Int) ≤ (L : Int) := by omega
  have hL1 : (L : Int) ≤ 8 := by omega
  obtain ⟨k1, k2⟩ := heap2 w (.cells #[.int .u64 m0, .int .u64 m1, .int .u64 m2, .int .u64 m3, .int .u64 m4, .int .u64 m5, .int .u64 m6, .int .u64 m7] 59) (.cells #[.int .u64 0, .int .u64 0, .int .u64 0, .int .u64 0, .int .u64 0, .int .u64 0, .int .u64 0, .int .u64 0] 59)
  have b2 : Below w.heap.size w ((w.alloc (.cells #[.int .u64 m0, .int .u64 m1, .int .u64 m2, .int .u64 m3, .int .u64 m4, .int .u64 m5, .int .u64 m6, .int .u64 m7] 59)).alloc (.cells #[.int .u64 0, .int .u64 0, .int .u64 0, .int .u64 0, .int .u64 0, .int .u64 0, .int .u64 0, .int .u64 0] 59)) := ((Below.refl _ w).alloc (Nat.le_refl _) _).alloc (by simp) _
  go_enter Tryz.func56, Tryz.ntmps56
  go_wp2_with fail
  generalize ((w.alloc (.cells #[.int .u64 m0, .int .u64 m1, .int .u64 m2, .int .u64 m3, .int .u64 m4, .int .u64 m5, .int .u64 m6, .int .u64 m7] 59)).alloc (.cells #[.int .u64 0, .int .u64 0, .int .u64 0, .int .u64 0, .int .u64 0, .int .u64 0, .int .u64 0, .int .u64 0] 59)) = W2 at *
  with_reducible refine (hlm _).mono ?_
  rintro e w1 ⟨r1, rfl, rfl, hb1⟩
  have hClt : w.heap.size + 1 < W2.heap.size := (Array.getElem?_eq_some_iff.1 k2).1
  have q1 := (hb1.block w.heap.size (by omega)).trans k1
  have q2 := (hb1.block (w.heap.size + 1) hClt).trans k2
  have b1 : Below w.heap.size w w1 := b2.trans (hb1.mono b2.size)
  clear hb1 k1 k2 b2 hlm
  have hm : ∀ j, j < 8 → w1.cell? ⟨w.heap.size, j, none⟩ = some (.int .u64 ([m0, m1, m2, m3, m4, m5, m6, m7].getD j 0)) := fun j hj => by
    rw [cellOf q1]; exact col_words (l := [m0, m1, m2, m3, m4, m5, m6, m7]) hj
  have hc0 : Cells8 (w.heap.size + 1) (List.replicate 8 0) w1 w1 := ⟨Below.refl _ _, q2⟩
  have Hm := Lib.hid hm
  clear hm q1 q2
  go_wp2
  refine word_loop hL hms rfl hn hmL (show w.heap.size < w.heap.size + 1 by omega) Hm.out hc0 _ _ _ _ _ _ _ _ _ _ _ _ _ _ _ _ _ _ _ _ _ _ _ (fun R qs u6 u10 u11 u12 u13 u14 u15 u16 u17 u18 u19 u20 u21 u22 u23 u24 W hd hc => ?_)
  obtain ⟨a0, a1, a2, a3, a4, a5, a6, a7, rfl⟩ := list8i hd.len
  have hs := hd.sum
  have hfin : DivWR [m0, m1, m2, m3, m4, m5, m6, m7] n (.tuple #[.agg #[.int .u64 a0, .int .u64 a1, .int .u64 a2, .int .u64 a3, .int .u64 a4, .int .u64 a5, .int .u64 a6, .int .u64 a7], .int .u64 R]) := ⟨_, R, hd.len, hd.good, hd.rest.1, hd.rest.2, by
    rw [← hs, List.take_zero, show wval [] = 0 from rfl, show pw (2 * 0) = 1 from rfl]; omega, rfl⟩
  have f3 : W.heap[w.heap.size + 1]? = some (.cells #[.int .u64 a0, .int .u64 a1, .int .u64 a2, .int .u64 a3, .int .u64 a4, .int .u64 a5, .int .u64 a6, .int .u64 a7] 59) := hc.cells
  have bf : Below w.heap.size w W := b1.trans (hc.bel.mono (by omega))
  have fl : ∀ j, W.frozen? ⟨w.heap.size + 1, j, none⟩ = false := fun j => frozenOf f3
  obtain ⟨y0, y1, y2, y3, y4, y5, y6, y7⟩ : W.cell? ⟨w.heap.size + 1, 0, none⟩ = some (.int .u64 a0) ∧ W.cell? ⟨w.heap.size + 1, 1, none⟩ = some (.int .u64 a1) ∧ W.cell? ⟨w.heap.size + 1, 2, none⟩ = some (.int .u64 a2) ∧ W.cell? ⟨w.heap.size + 1, 3, none⟩ = some (.int .u64 a3) ∧ W.cell? ⟨w.heap.size + 1, 4, none⟩ = some (.int .u64 a4) ∧ W.cell? ⟨w.heap.size + 1, 5, none⟩ = some (.int .u64 a5) ∧ W.cell? ⟨w.heap.size + 1, 6, none⟩ = some (.int .u64 a6) ∧ W.cell? ⟨w.heap.size + 1, 7, none⟩ = some (.int .u64 a7) := ⟨(cellOf (j := 0) f3).trans rfl, (cellOf (j := 1) f3).trans rfl, (cellOf (j := 2) f3).trans rfl, (cellOf (j := 3) f3).trans rfl, (cellOf (j := 4) f3).trans rfl, (cellOf (j := 5) f3).trans rfl, (cellOf (j := 6) f3).trans rfl, (cellOf (j := 7) f3).trans rfl⟩
  have hsz : w.heap.size + 1 < W.heap.size := (Array.getElem?_eq_some_iff.1 f3).1
  clear f3 hs hd hc hc0 Hm hms hmL b1
  go_wp2
  exact bodyPost_ret (v := .tuple #[.agg #[.int .u64 a0, .int .u64 a1, .int .u64 a2, .int .u64 a3, .int .u64 a4, .int .u64 a5, .int .u64 a6, .int .u64 a7], .int .u64 R]) (by simp [results, Tryz.results56, go_sem, y0, y1, y2, y3, y4, y5, y6, y7, hsz]) rfl ⟨_, rfl, hfin, below_set8 bf (by omega) _ _ _ _ _ _ _ _⟩
#print axioms divWord_c
end Go.Proofs.YtaafimabgcnbaabGreatDoor
