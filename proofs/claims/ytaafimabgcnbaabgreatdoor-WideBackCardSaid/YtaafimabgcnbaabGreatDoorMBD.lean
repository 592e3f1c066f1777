/-
  The law WideBack: comparisons, and integers, behind the texts.
-/
import Derived.Test.YtaafimabgcnbaabGreatDoorMBB
set_option linter.all false
namespace Go.Proofs.YtaafimabgcnbaabGreatDoor
open Go Go.Rx Go.RowKit Go.Big
attribute [local instance] noAv
theorem cellAll {W : World} {B : Nat} {cs : Array Value} {t : TypeId} (k : W.heap[B]? = some (.cells cs t)) : ∀ j, W.cell? ⟨B, j, none⟩ = cs[j]? := fun _ => cellOf k
theorem frozenAll {W : World} {B : Nat} {cs : Array Value} {t : TypeId} (k : W.heap[B]? = some (.cells cs t)) : ∀ j, W.frozen? ⟨B, j, none⟩ = false := fun _ => frozenOf k
theorem cmpI_sub (x y : Int) : cmpI (x - y) 0 = cmpI x y := by
  unfold cmpI
  by_cases h : x < y
  · rw [if_pos h, if_pos (by omega)]
  · rw [if_neg h, if_neg (by omega)]
    by_cases h2 : y < x
    · rw [if_pos h2, if_pos (by omega)]
    · rw [if_neg h2, if_neg (by omega)]
theorem cmpI_zero (x y : Int) : (cmpI x y == 0) = decide (x = y) := by
  unfold cmpI
  by_cases h : x < y
  · rw [if_pos h, decide_eq_false (by omega)]; rfl
  · rw [if_neg h]
    by_cases h2 : y < x
    · rw [if_pos h2, decide_eq_false (by omega)]; rfl
    · rw [if_neg h2, decide_eq_true (by omega)]; rfl
theorem eq8_words {x y : Int} (hx : fit x) (hy : fit y) {x0 x1 x2 x3 x4 x5 x6 x7 y0 y1 y2 y3 y4 y5 y6 y7 : Int} (ex : W x = .agg #[.int .u64 x0, .int .u64 x1, .int .u64 x2, .int .u64 x3, .int .u64 x4, .int .u64 x5, .int .u64 x6, .int .u64 x7]) (ey : W y = .agg #[.int .u64 y0, .int .u64 y1, .int .u64 y2, .int .u64 y3, .int .u64 y4, .int .u64 y5, .int .u64 y6, .int .u64 y7]) (U : World) : (Op.equalIn 10000 24 (.agg #[.int .u64 x0, .int .u64 x1, .int .u64 x2, .int .u64 x3, .int .u64 x4, .int .u64 x5, .int .u64 x6, .int .u64 x7]) (.agg #[.int .u64 y0, .int .u64 y1, .int .u64 y2, .int .u64 y3, .int .u64 y4, .int .u64 y5, .int .u64 y6, .int .u64 y7])).run Tryz.prog U = .ok (decide (x = y)) U := by
  have h : aggEq Tryz.prog 24 ([x0, x1, x2, x3, x4, x5, x6, x7].map fun a => C.v (.int .u64 a)) ([y0, y1, y2, y3, y4, y5, y6, y7].map fun a => C.v (.int .u64 a)) = some ((x0 == y0) && ((x1 == y1) && ((x2 == y2) && ((x3 == y3) && ((x4 == y4) && ((x5 == y5) && ((x6 == y6) && ((x7 == y7) && true)))))))) := by kernel_rfl
  have e : ((x0 == y0) && ((x1 == y1) && ((x2 == y2) && ((x3 == y3) && ((x4 == y4) && ((x5 == y5) && ((x6 == y6) && ((x7 == y7) && true)))))))) = decide (x = y) := by
    rw [Bool.eq_iff_iff, decide_eq_true_eq]
    simp only [Bool.and_eq_true, beq_iff_eq, and_true]
    constructor
    · rintro ⟨rfl, rfl, rfl, rfl, rfl, rfl, rfl, rfl⟩
      exact W_inj hx hy (ex.trans ey.symm)
    · rintro rfl
      have := ex.symm.trans ey
      simp only [Value.agg.injEq, Array.mk.injEq, List.cons.injEq, Value.int.injEq, true_and, and_true] at this
      exact this
  rw [e] at h
  exact (aggEq_sound (ρ := noLoc (lets0 fun _ => 0)) h (all2_v _) (all2_v _) U).1
noncomputable def backS : Code := ((Tryz.f3.body.bind (fromR 10)).getD .skip)
set_option maxHeartbeats 16000000 in
set_option maxRecDepth 100000 in
theorem back_rest {w7 : World} {B C : Nat} {x y m n : Int} {x0 x1 x2 x3 x4 x5 x6 x7 y0 y1 y2 y3 y4 y5 y6 y7 d0 d1 d2 d3 d4 d5 d6 d7 p0 p1 p2 p3 p4 p5 p6 p7 q0 q1 q2 q3 q4 q5 q6 q7 : Int}
    (kB : w7.heap[B]? = some (.cells #[.int .u64 x0, .int .u64 x1, .int .u64 x2, .int .u64 x3, .int .u64 x4, .int .u64 x5, .int .u64 x6, .int .u64 x7] 24)) (kC : w7.heap[C]? = some (.cells #[.int .u64 y0, .int .u64 y1, .int .u64 y2, .int .u64 y3, .int .u64 y4, .int .u64 y5, .int .u64 y6, .int .u64 y7] 24)) (fx : fit x) (fy : fit y)
    (ex : W x = .agg #[.int .u64 x0, .int .u64 x1, .int .u64 x2, .int .u64 x3, .int .u64 x4, .int .u64 x5, .int .u64 x6, .int .u64 x7]) (ey : W y = .agg #[.int .u64 y0, .int .u64 y1, .int .u64 y2, .int .u64 y3, .int .u64 y4, .int .u64 y5, .int .u64 y6, .int .u64 y7])
    (hSub : ∀ U, Calls Tryz.prog 9 #[.agg #[.int .u64 x0, .int .u64 x1, .int .u64 x2, .int .u64 x3, .int .u64 x4, .int .u64 x5, .int .u64 x6, .int .u64 x7], .agg #[.int .u64 y0, .int .u64 y1, .int .u64 y2, .int .u64 y3, .int .u64 y4, .int .u64 y5, .int .u64 y6, .int .u64 y7]] U (Gets (fun _ r => r = .tuple #[.agg #[.int .u64 d0, .int .u64 d1, .int .u64 d2, .int .u64 d3, .int .u64 d4, .int .u64 d5, .int .u64 d6, .int .u64 d7], .int .i64 0]) U))
    (hCmp : ∀ U, Calls Tryz.prog 10 #[.agg #[.int .u64 x0, .int .u64 x1, .int .u64 x2, .int .u64 x3, .int .u64 x4, .int .u64 x5, .int .u64 x6, .int .u64 x7], .agg #[.int .u64 y0, .int .u64 y1, .int .u64 y2, .int .u64 y3, .int .u64 y4, .int .u64 y5, .int .u64 y6, .int .u64 y7]] U (Gets (fun _ r => r = .int .i64 (cmpI x y)) U))
    (hSgn : ∀ U, Calls Tryz.prog 11 #[.agg #[.int .u64 d0, .int .u64 d1, .int .u64 d2, .int .u64 d3, .int .u64 d4, .int .u64 d5, .int .u64 d6, .int .u64 d7]] U (Gets (fun _ r => r = .int .i64 (cmpI x y)) U))
    (hOm : ∀ U, Calls Tryz.prog 12 #[.int .i64 m] U (Gets (fun _ r => r = .agg #[.int .u64 p0, .int .u64 p1, .int .u64 p2, .int .u64 p3, .int .u64 p4, .int .u64 p5, .int .u64 p6, .int .u64 p7]) U))
    (hOn : ∀ U, Calls Tryz.prog 12 #[.int .i64 n] U (Gets (fun _ r => r = .agg #[.int .u64 q0, .int .u64 q1, .int .u64 q2, .int .u64 q3, .int .u64 q4, .int .u64 q5, .int .u64 q6, .int .u64 q7]) U))
    (hCmn : ∀ U, Calls Tryz.prog 10 #[.agg #[.int .u64 p0, .int .u64 p1, .int .u64 p2, .int .u64 p3, .int .u64 p4, .int .u64 p5, .int .u64 p6, .int .u64 p7], .agg #[.int .u64 q0, .int .u64 q1, .int .u64 q2, .int .u64 q3, .int .u64 q4, .int .u64 q5, .int .u64 q6, .int .u64 q7]] U (Gets (fun _ r => r = .int .i64 (cmpI m n)) U))
    (hInt : ∀ U, Calls Tryz.prog 14 #[.agg #[.int .u64 p0, .int .u64 p1, .int .u64 p2, .int .u64 p3, .int .u64 p4, .int .u64 p5, .int .u64 p6, .int .u64 p7]] U (Gets (fun _ r => r = .tuple #[.int .i64 m, .int .i64 0]) U))
    (c0 c1 c2 c3 c6 c7 c8 c9 c10 c11 c13 c14 c20 c21 c22 c23 c24 c25 c26 c27 c28 c29 c30 c31 c32 c33 c34 c35 c36 c37 c38 c39 c40 c41 c42 c43 c44 c45 c46 c47 c48 c49 c50 c51 c52 c53 c54 c55 c56 c57 c58 c59 c60 c61 c62 c63 c64 c65 c66 c67 c68 c69 c70 u12 u17 u18 u19 u71 u72 u73 u74 u75 u76 u77 u78 u79 u80 u81 u82 u83 u84 u85 u86 u87 u88 u89 u90 u91 u92 u93 u94 u95 u96 u97 u98 u99 u100 u101 u102 u103 u104 u105 u106 u107 u108 u109 u110 u111 u112 u113 u114 u115 u116 u117 u118 u119 u120 : Value) (Q : Exit → Act → World → Prop)
    (hQ : ∀ (u17 u18 u19 u71 u72 u73 u74 u75 u76 u77 u78 u79 u80 u81 u82 u83 u84 u85 u86 u87 u88 u89 u90 u91 u92 u93 u94 u95 u96 u97 u98 u99 u100 u101 u102 u103 u104 u105 u106 u107 u108 u109 u110 u111 u112 u113 u114 u115 u116 u117 u118 u119 u120 : Value) (W : World), Below w7.heap.size w7 W → Q .ret ⟨(List.toArray (c0 :: c1 :: c2 :: c3 :: (.int .i64 m) :: (.int .i64 n) :: c6 :: c7 :: c8 :: c9 :: c10 :: c11 :: (.bool true) :: c13 :: c14 :: (.pointer (some ⟨B, 0, none⟩)) :: (.pointer (some ⟨C, 0, none⟩)) :: u17 :: u18 :: u19 :: c20 :: c21 :: c22 :: c23 :: c24 :: c25 :: c26 :: c27 :: c28 :: c29 :: c30 :: c31 :: c32 :: c33 :: c34 :: c35 :: c36 :: c37 :: c38 :: c39 :: c40 :: c41 :: c42 :: c43 :: c44 :: c45 :: c46 :: c47 :: c48 :: c49 :: c50 :: c51 :: c52 :: c53 :: c54 :: c55 :: c56 :: c57 :: c58 :: c59 :: c60 :: c61 :: c62 :: c63 :: c64 :: c65 :: c66 :: c67 :: c68 :: c69 :: c70 :: u71 :: u72 :: u73 :: u74 :: u75 :: u76 :: u77 :: u78 :: u79 :: u80 :: u81 :: u82 :: u83 :: u84 :: u85 :: u86 :: u87 :: u88 :: u89 :: u90 :: u91 :: u92 :: u93 :: u94 :: u95 :: u96 :: u97 :: u98 :: u99 :: u100 :: u101 :: u102 :: u103 :: u104 :: u105 :: u106 :: u107 :: u108 :: u109 :: u110 :: u111 :: u112 :: u113 :: u114 :: u115 :: u116 :: u117 :: u118 :: u119 :: u120 :: [])), []⟩ W) :
    Code.wp Tryz.prog backS Q ⟨(List.toArray (c0 :: c1 :: c2 :: c3 :: (.int .i64 m) :: (.int .i64 n) :: c6 :: c7 :: c8 :: c9 :: c10 :: c11 :: u12 :: c13 :: c14 :: (.pointer (some ⟨B, 0, none⟩)) :: (.pointer (some ⟨C, 0, none⟩)) :: u17 :: u18 :: u19 :: c20 :: c21 :: c22 :: c23 :: c24 :: c25 :: c26 :: c27 :: c28 :: c29 :: c30 :: c31 :: c32 :: c33 :: c34 :: c35 :: c36 :: c37 :: c38 :: c39 :: c40 :: c41 :: c42 :: c43 :: c44 :: c45 :: c46 :: c47 :: c48 :: c49 :: c50 :: c51 :: c52 :: c53 :: c54 :: c55 :: c56 :: c57 :: c58 :: c59 :: c60 :: c61 :: c62 :: c63 :: c64 :: c65 :: c66 :: c67 :: c68 :: c69 :: c70 :: u71 :: u72 :: u73 :: u74 :: u75 :: u76 :: u77 :: u78 :: u79 :: u80 :: u81 :: u82 :: u83 :: u84 :: u85 :: u86 :: u87 :: u88 :: u89 :: u90 :: u91 :: u92 :: u93 :: u94 :: u95 :: u96 :: u97 :: u98 :: u99 :: u100 :: u101 :: u102 :: u103 :: u104 :: u105 :: u106 :: u107 :: u108 :: u109 :: u110 :: u111 :: u112 :: u113 :: u114 :: u115 :: u116 :: u117 :: u118 :: u119 :: u120 :: [])), []⟩ w7 := by
  have hEq := eq8_words fx fy ex ey
  have hq := cmpI_zero x y
  obtain ⟨cc, hcc⟩ : ∃ c, cmpI x y = c := ⟨_, rfl⟩
  rw [hcc] at hCmp hSgn hq
  generalize decide (x = y) = bq at *
  clear ex ey fx fy hcc
  obtain ⟨⟨e0, e1, e2, e3, e4, e5, e6, e7⟩, -⟩ := cells8 kB
  obtain ⟨⟨g0, g1, g2, g3, g4, g5, g6, g7⟩, -⟩ := cells8 kC
  conv => arg 2; whnf
  go_wp2_with fail
  clear e0 e1 e2 e3 e4 e5 e6 e7 g0 g1 g2 g3 g4 g5 g6 g7
  with_reducible refine (hSub _).mono ?_
  rintro e w1 ⟨v, rfl, rfl, hb1⟩
  have kD := (MapKept.heap_alloc w1 (.cells #[.int .u64 d0, .int .u64 d1, .int .u64 d2, .int .u64 d3, .int .u64 d4, .int .u64 d5, .int .u64 d6, .int .u64 d7] 24)).1
  have kB1 := carry kB hb1
  have kC1 := carry kC hb1
  have z1 : Below w7.heap.size w7 (w1.alloc (.cells #[.int .u64 d0, .int .u64 d1, .int .u64 d2, .int .u64 d3, .int .u64 d4, .int .u64 d5, .int .u64 d6, .int .u64 d7] 24)) := below_al hb1 _
  have za : Below w1.heap.size w1 (w1.alloc (.cells #[.int .u64 d0, .int .u64 d1, .int .u64 d2, .int .u64 d3, .int .u64 d4, .int .u64 d5, .int .u64 d6, .int .u64 d7] 24)) := below_al (Below.refl _ _) _
  have kB2 := carry kB1 za
  have kC2 := carry kC1 za
  clear hb1 kB kC kB1 kC1 za hSub
  have hsp : ∃ c : Int, cmpI m n = c ∧ ((c = -1 ∧ m < n) ∨ (c = 1 ∧ ¬ m < n ∧ n < m) ∨ (c = 0 ∧ ¬ m < n ∧ ¬ n < m)) := by
    unfold cmpI
    by_cases h : m < n
    · exact ⟨_, rfl, .inl ⟨by rw [if_pos h], h⟩⟩
    · by_cases h2 : n < m
      · exact ⟨_, rfl, .inr (.inl ⟨by rw [if_neg h, if_pos h2], h, h2⟩)⟩
      · exact ⟨_, rfl, .inr (.inr ⟨by rw [if_neg h, if_neg h2], h, h2⟩)⟩
  obtain ⟨c, hc, hsp⟩ := hsp
  rw [hc] at hCmn
  clear hc
  rcases hsp with ⟨rfl, o1⟩ | ⟨rfl, o1, o2⟩ | ⟨rfl, o1, o2⟩
  all_goals
    go_wp2
  all_goals
    generalize w1.alloc (.cells #[.int .u64 d0, .int .u64 d1, .int .u64 d2, .int .u64 d3, .int .u64 d4, .int .u64 d5, .int .u64 d6, .int .u64 d7] 24) = w2 at *
    generalize w1.heap.size = D at *
    have hlB := lt_of_heap kB2
    have hlC := lt_of_heap kC2
    have hlD := lt_of_heap kD
    have allS : ∀ U, Below w2.heap.size w2 U → U.cell? ⟨B, 0, none⟩ = some (.int .u64 x0) ∧ U.cell? ⟨B, 1, none⟩ = some (.int .u64 x1) ∧ U.cell? ⟨B, 2, none⟩ = some (.int .u64 x2) ∧ U.cell? ⟨B, 3, none⟩ = some (.int .u64 x3) ∧ U.cell? ⟨B, 4, none⟩ = some (.int .u64 x4) ∧ U.cell? ⟨B, 5, none⟩ = some (.int .u64 x5) ∧ U.cell? ⟨B, 6, none⟩ = some (.int .u64 x6) ∧ U.cell? ⟨B, 7, none⟩ = some (.int .u64 x7) ∧ U.cell? ⟨C, 0, none⟩ = some (.int .u64 y0) ∧ U.cell? ⟨C, 1, none⟩ = some (.int .u64 y1) ∧ U.cell? ⟨C, 2, none⟩ = some (.int .u64 y2) ∧ U.cell? ⟨C, 3, none⟩ = some (.int .u64 y3) ∧ U.cell? ⟨C, 4, none⟩ = some (.int .u64 y4) ∧ U.cell? ⟨C, 5, none⟩ = some (.int .u64 y5) ∧ U.cell? ⟨C, 6, none⟩ = some (.int .u64 y6) ∧ U.cell? ⟨C, 7, none⟩ = some (.int .u64 y7) ∧ U.cell? ⟨D, 0, none⟩ = some (.int .u64 d0) ∧ U.cell? ⟨D, 1, none⟩ = some (.int .u64 d1) ∧ U.cell? ⟨D, 2, none⟩ = some (.int .u64 d2) ∧ U.cell? ⟨D, 3, none⟩ = some (.int .u64 d3) ∧ U.cell? ⟨D, 4, none⟩ = some (.int .u64 d4) ∧ U.cell? ⟨D, 5, none⟩ = some (.int .u64 d5) ∧ U.cell? ⟨D, 6, none⟩ = some (.int .u64 d6) ∧ U.cell? ⟨D, 7, none⟩ = some (.int .u64 d7) := fun U hU => by
      have k1 := (hU.block B hlB).trans kB2
      have k2 := (hU.block C hlC).trans kC2
      have k3 := (hU.block D hlD).trans kD
      exact ⟨(cellOf (j := 0) k1).trans rfl, (cellOf (j := 1) k1).trans rfl, (cellOf (j := 2) k1).trans rfl, (cellOf (j := 3) k1).trans rfl, (cellOf (j := 4) k1).trans rfl, (cellOf (j := 5) k1).trans rfl, (cellOf (j := 6) k1).trans rfl, (cellOf (j := 7) k1).trans rfl, (cellOf (j := 0) k2).trans rfl, (cellOf (j := 1) k2).trans rfl, (cellOf (j := 2) k2).trans rfl, (cellOf (j := 3) k2).trans rfl, (cellOf (j := 4) k2).trans rfl, (cellOf (j := 5) k2).trans rfl, (cellOf (j := 6) k2).trans rfl, (cellOf (j := 7) k2).trans rfl, (cellOf (j := 0) k3).trans rfl, (cellOf (j := 1) k3).trans rfl, (cellOf (j := 2) k3).trans rfl, (cellOf (j := 3) k3).trans rfl, (cellOf (j := 4) k3).trans rfl, (cellOf (j := 5) k3).trans rfl, (cellOf (j := 6) k3).trans rfl, (cellOf (j := 7) k3).trans rfl⟩
    have b0 : Below w2.heap.size w2 w2.drew := (Below.refl _ _).drew
    clear kB2 kC2 kD hlB hlC hlD
    go_region_held3 (fun w' => w'.cell? ⟨B, 0, none⟩ = some (.int .u64 x0) ∧ w'.cell? ⟨B, 1, none⟩ = some (.int .u64 x1) ∧ w'.cell? ⟨B, 2, none⟩ = some (.int .u64 x2) ∧ w'.cell? ⟨B, 3, none⟩ = some (.int .u64 x3) ∧ w'.cell? ⟨B, 4, none⟩ = some (.int .u64 x4) ∧ w'.cell? ⟨B, 5, none⟩ = some (.int .u64 x5) ∧ w'.cell? ⟨B, 6, none⟩ = some (.int .u64 x6) ∧ w'.cell? ⟨B, 7, none⟩ = some (.int .u64 x7) ∧ w'.cell? ⟨C, 0, none⟩ = some (.int .u64 y0) ∧ w'.cell? ⟨C, 1, none⟩ = some (.int .u64 y1) ∧ w'.cell? ⟨C, 2, none⟩ = some (.int .u64 y2) ∧ w'.cell? ⟨C, 3, none⟩ = some (.int .u64 y3) ∧ w'.cell? ⟨C, 4, none⟩ = some (.int .u64 y4) ∧ w'.cell? ⟨C, 5, none⟩ = some (.int .u64 y5) ∧ w'.cell? ⟨C, 6, none⟩ = some (.int .u64 y6) ∧ w'.cell? ⟨C, 7, none⟩ = some (.int .u64 y7) ∧ w'.cell? ⟨D, 0, none⟩ = some (.int .u64 d0) ∧ w'.cell? ⟨D, 1, none⟩ = some (.int .u64 d1) ∧ w'.cell? ⟨D, 2, none⟩ = some (.int .u64 d2) ∧ w'.cell? ⟨D, 3, none⟩ = some (.int .u64 d3) ∧ w'.cell? ⟨D, 4, none⟩ = some (.int .u64 d4) ∧ w'.cell? ⟨D, 5, none⟩ = some (.int .u64 d5) ∧ w'.cell? ⟨D, 6, none⟩ = some (.int .u64 d6) ∧ w'.cell? ⟨D, 7, none⟩ = some (.int .u64 d7))
      ((with_reducible first | exact allS _ b0 | exact allS _ b1 | exact allS _ b2 | exact allS _ b3 | exact allS _ b4 | exact allS _ b5 | exact allS _ b6 | exact allS _ b7 | exact allS _ b8 | exact allS _ b9 | exact allS _ b10))
      (first | (go_at_call 10; ((with_reducible refine (hCmp _).mono ?_); rintro e w3 ⟨v, rfl, rfl, hb⟩; have b1 := next0 b0 hb)) | (go_at_call 11; ((with_reducible refine (hSgn _).mono ?_); rintro e w4 ⟨v, rfl, rfl, hb⟩; first | (have b3 := next0 b2 hb) | (have b2 := next0 b1 hb))) | (go_at_call 12; ((with_reducible refine (hOm _).mono ?_); rintro e w5 ⟨v, rfl, rfl, hb⟩; first | (have b8 := next0 b7 hb; have kF := (hb.cell (p := ⟨F, 0, none⟩) lF).trans kF; have lF := Nat.lt_of_lt_of_le lF hb.size) | (have b4 := next0 b3 hb))) | (go_at_call 12; ((with_reducible refine (hOn _).mono ?_); rintro e w6 ⟨v, rfl, rfl, hb⟩; have b5 := next0 b4 hb)) | (go_at_call 10; ((with_reducible refine (hCmn _).mono ?_); rintro e w7 ⟨v, rfl, rfl, hb⟩; have b6 := next0 b5 hb)) | (go_at_call 13; ((with_reducible refine (says_c m).mono ?_); rintro e w8 ⟨v, rfl, ⟨F, rfl, kF, lF⟩, hb⟩; have b7 := next0 b6 hb)) | (go_at_call 14; ((with_reducible refine (hInt _).mono ?_); rintro e w9 ⟨v, rfl, rfl, hb⟩; have b9 := next0 b8 hb; have kF := (hb.cell (p := ⟨F, 0, none⟩) lF).trans kF; have lF := Nat.lt_of_lt_of_le lF hb.size)) | (go_at_call 44; ((with_reducible refine (says1_c kF).mono ?_); rintro e w10 ⟨v, rfl, rfl, hb⟩; have b10 := next0 b9 hb)))
    go_wp2
    exact next0 z1 b10
end Go.Proofs.YtaafimabgcnbaabGreatDoor
