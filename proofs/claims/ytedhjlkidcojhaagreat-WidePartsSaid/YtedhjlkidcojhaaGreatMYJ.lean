/-
  The second loop of the law WideParts.
-/
import Derived.Test.YtedhjlkidcojhaaGreatMYI
set_option linter.all false
namespace Go.Proofs.YtedhjlkidcojhaaGreat
open Go Go.Rx Go.RowKit Go.Big
attribute [local instance] noAv
/-- The cells of a pair in a row of six, behind the first two. -/
theorem pair_cells4 {U : World} {base g cap : Nat} {qs : List (Int × Int)} {k : Nat} {x y : Int} {x0 x1 x2 x3 x4 x5 x6 x7 y0 y1 y2 y3 y4 y5 y6 y7 : Int} (hown : U.ownsRow base 35 16 (.slice (some ⟨g, 0, none⟩) 6 cap) 6 (qs.flatMap cellsP)) (hl : qs.length = 6) (hk : k < 4) (hxy : qs.getD (k + 2) (0, 0) = (x, y))
    (hx : W x = .agg #[.int .u64 x0, .int .u64 x1, .int .u64 x2, .int .u64 x3, .int .u64 x4, .int .u64 x5, .int .u64 x6, .int .u64 x7]) (hy : W y = .agg #[.int .u64 y0, .int .u64 y1, .int .u64 y2, .int .u64 y3, .int .u64 y4, .int .u64 y5, .int .u64 y6, .int .u64 y7]) : U.cell? ⟨g, 32 + k * 16, none⟩ = some (.int .u64 x0) ∧ U.cell? ⟨g, 32 + k * 16 + 1, none⟩ = some (.int .u64 x1) ∧ U.cell? ⟨g, 32 + k * 16 + 2, none⟩ = some (.int .u64 x2) ∧ U.cell? ⟨g, 32 + k * 16 + 3, none⟩ = some (.int .u64 x3) ∧ U.cell? ⟨g, 32 + k * 16 + 4, none⟩ = some (.int .u64 x4) ∧ U.cell? ⟨g, 32 + k * 16 + 5, none⟩ = some (.int .u64 x5) ∧ U.cell? ⟨g, 32 + k * 16 + 6, none⟩ = some (.int .u64 x6) ∧ U.cell? ⟨g, 32 + k * 16 + 7, none⟩ = some (.int .u64 x7) ∧ U.cell? ⟨g, 32 + k * 16 + 8, none⟩ = some (.int .u64 y0) ∧ U.cell? ⟨g, 32 + k * 16 + 9, none⟩ = some (.int .u64 y1) ∧ U.cell? ⟨g, 32 + k * 16 + 10, none⟩ = some (.int .u64 y2) ∧ U.cell? ⟨g, 32 + k * 16 + 11, none⟩ = some (.int .u64 y3) ∧ U.cell? ⟨g, 32 + k * 16 + 12, none⟩ = some (.int .u64 y4) ∧ U.cell? ⟨g, 32 + k * 16 + 13, none⟩ = some (.int .u64 y5) ∧ U.cell? ⟨g, 32 + k * 16 + 14, none⟩ = some (.int .u64 y6) ∧ U.cell? ⟨g, 32 + k * 16 + 15, none⟩ = some (.int .u64 y7) := by
  have hc : ∀ i, i < 16 → U.cell? ⟨g, 32 + k * 16 + i, none⟩ = (cellsP (x, y))[i]? := fun i hi => by
    rw [show 32 + k * 16 + i = (k + 2) * 16 + i by omega, hown.cellAt _ (by omega), flat_get qs (k + 2) i (by omega) hi, hxy]
  have e : cellsP (x, y) = [.int .u64 x0, .int .u64 x1, .int .u64 x2, .int .u64 x3, .int .u64 x4, .int .u64 x5, .int .u64 x6, .int .u64 x7, .int .u64 y0, .int .u64 y1, .int .u64 y2, .int .u64 y3, .int .u64 y4, .int .u64 y5, .int .u64 y6, .int .u64 y7] := by unfold cellsP; rw [W8_of hx, W8_of hy]; rfl
  rw [e] at hc
  exact ⟨(hc 0 (by decide)).trans rfl, (hc 1 (by decide)).trans rfl, (hc 2 (by decide)).trans rfl, (hc 3 (by decide)).trans rfl, (hc 4 (by decide)).trans rfl, (hc 5 (by decide)).trans rfl, (hc 6 (by decide)).trans rfl, (hc 7 (by decide)).trans rfl, (hc 8 (by decide)).trans rfl, (hc 9 (by decide)).trans rfl, (hc 10 (by decide)).trans rfl, (hc 11 (by decide)).trans rfl, (hc 12 (by decide)).trans rfl, (hc 13 (by decide)).trans rfl, (hc 14 (by decide)).trans rfl, (hc 15 (by decide)).trans rfl⟩
noncomputable def partsM : Code := ((Tryz.f5.body.bind (findB 2)).getD .skip)
set_option maxHeartbeats 8000000 in
set_option maxRecDepth 100000 in
theorem parts_loop2 {w7 : World} {base g cap : Nat} {qs : List (Int × Int)} (hq : ∀ p ∈ qs, fit p.1 ∧ fit p.2) (hl : qs.length = 6) (hown : w7.ownsRow base 35 16 (.slice (some ⟨g, 0, none⟩) 6 cap) 6 (qs.flatMap cellsP))
    (c0 c1 c3 c4 c5 c6 c7 c8 c9 c10 c11 c17 c18 c19 c20 c21 c22 c23 c24 c25 c26 c27 c28 c29 c30 c31 c32 c33 c34 c35 c36 c37 c38 c39 c40 c41 c42 c43 c44 c45 c46 c47 c48 c49 c50 c51 c52 c53 c54 c55 c56 c57 c58 c59 u2 u12 u13 u14 u15 u16 u63 u64 u65 u66 u67 u68 u69 u70 u71 u72 u73 u74 u75 u76 u77 u78 u79 u80 u81 u82 u83 u84 u85 u86 u87 u88 u89 u90 : Value) (Q : Exit → Act → World → Prop)
    (hQ : ∀ (u2 u12 u13 u14 u15 u16 u63 u64 u65 u66 u67 u68 u69 u70 u71 u72 u73 u74 u75 u76 u77 u78 u79 u80 u81 u82 u83 u84 u85 u86 u87 u88 u89 u90 : Value) (W : World), Below w7.heap.size w7 W → Q (.exit 2) ⟨(List.toArray (c0 :: c1 :: u2 :: c3 :: c4 :: c5 :: c6 :: c7 :: c8 :: c9 :: c10 :: c11 :: u12 :: u13 :: u14 :: u15 :: u16 :: c17 :: c18 :: c19 :: c20 :: c21 :: c22 :: c23 :: c24 :: c25 :: c26 :: c27 :: c28 :: c29 :: c30 :: c31 :: c32 :: c33 :: c34 :: c35 :: c36 :: c37 :: c38 :: c39 :: c40 :: c41 :: c42 :: c43 :: c44 :: c45 :: c46 :: c47 :: c48 :: c49 :: c50 :: c51 :: c52 :: c53 :: c54 :: c55 :: c56 :: c57 :: c58 :: c59 :: (.slice (some ⟨g, 32, none⟩) 4 (cap - 2)) :: (.int .i64 4) :: (.int .i64 4) :: u63 :: u64 :: u65 :: u66 :: u67 :: u68 :: u69 :: u70 :: u71 :: u72 :: u73 :: u74 :: u75 :: u76 :: u77 :: u78 :: u79 :: u80 :: u81 :: u82 :: u83 :: u84 :: u85 :: u86 :: u87 :: u88 :: u89 :: u90 :: [])), []⟩ W) :
    Code.wp Tryz.prog partsM Q ⟨(List.toArray (c0 :: c1 :: u2 :: c3 :: c4 :: c5 :: c6 :: c7 :: c8 :: c9 :: c10 :: c11 :: u12 :: u13 :: u14 :: u15 :: u16 :: c17 :: c18 :: c19 :: c20 :: c21 :: c22 :: c23 :: c24 :: c25 :: c26 :: c27 :: c28 :: c29 :: c30 :: c31 :: c32 :: c33 :: c34 :: c35 :: c36 :: c37 :: c38 :: c39 :: c40 :: c41 :: c42 :: c43 :: c44 :: c45 :: c46 :: c47 :: c48 :: c49 :: c50 :: c51 :: c52 :: c53 :: c54 :: c55 :: c56 :: c57 :: c58 :: c59 :: (.slice (some ⟨g, 32, none⟩) 4 (cap - 2)) :: (.int .i64 4) :: (.int .i64 0) :: u63 :: u64 :: u65 :: u66 :: u67 :: u68 :: u69 :: u70 :: u71 :: u72 :: u73 :: u74 :: u75 :: u76 :: u77 :: u78 :: u79 :: u80 :: u81 :: u82 :: u83 :: u84 :: u85 :: u86 :: u87 :: u88 :: u89 :: u90 :: [])), []⟩ w7 := by
  obtain ⟨g', cap', hg', -, hglt⟩ := hown.form (by decide)
  obtain ⟨rfl, rfl⟩ : g = g' ∧ cap = cap' := by injection hg' with h1 h2 h3; injection h1 with h1; injection h1 with h1; exact ⟨h1, h3⟩
  clear hg'
  conv => arg 2; whnf
  go_loopw [62] (fun i wr => ∃ k : Nat, i = .int .i64 k ∧ k ≤ 4 ∧ Below w7.heap.size w7 wr) (fun i _ => 4 - (intOf i).toNat)
  case atStart => exact ⟨0, rfl, by omega, Below.refl _ _⟩
  case round =>
    obtain ⟨k, rfl, hk, hB⟩ := hrel
    by_cases h7 : k < 4
    · obtain ⟨x, y, hxy⟩ : ∃ x y, qs.getD (k + 2) (0, 0) = (x, y) := ⟨_, _, rfl⟩
      have hmem := hq _ (qs_mem (by rw [hl]; omega : k + 2 < qs.length))
      rw [hxy] at hmem
      obtain ⟨hx, hy⟩ := hmem
      obtain ⟨x0, x1, x2, x3, x4, x5, x6, x7, -, -, hwx⟩ := words_of hx
      obtain ⟨y0, y1, y2, y3, y4, y5, y6, y7, -, -, hwy⟩ := words_of hy
      obtain ⟨h100, h101, h102, h103, h104, h105, h106, h107, h108, h109, h110, h111, h112, h113, h114, h115⟩ := pair_cells4 (own_of_block hown (fun b _ hb => hB.block b hb)) hl h7 hxy hwx hwy
      obtain ⟨r, ee, hfr, H0, H1⟩ := gcd_words x y hx hy
      obtain ⟨r0, r1, r2, r3, r4, r5, r6, r7, -, -, hwr⟩ := words_of hfr
      simp only [hwx, hwy, hwr] at H0 H1
      have Er := eq8_same r0 r1 r2 r3 r4 r5 r6 r7
      clear hwx hwy hq hown hxy hx hy hwr hfr
      go_wp2_with fail
      have kx := (MapKept.heap_alloc wr (.cells #[.int .u64 x0, .int .u64 x1, .int .u64 x2, .int .u64 x3, .int .u64 x4, .int .u64 x5, .int .u64 x6, .int .u64 x7, .int .u64 y0, .int .u64 y1, .int .u64 y2, .int .u64 y3, .int .u64 y4, .int .u64 y5, .int .u64 y6, .int .u64 y7] 35)).1
      have hBa : Below w7.heap.size w7 (wr.alloc (.cells #[.int .u64 x0, .int .u64 x1, .int .u64 x2, .int .u64 x3, .int .u64 x4, .int .u64 x5, .int .u64 x6, .int .u64 x7, .int .u64 y0, .int .u64 y1, .int .u64 y2, .int .u64 y3, .int .u64 y4, .int .u64 y5, .int .u64 y6, .int .u64 y7] 35)) := hB.alloc hB.size _
      clear hB h100 h101 h102 h103 h104 h105 h106 h107 h108 h109 h110 h111 h112 h113 h114 h115
      generalize wr.alloc (.cells #[.int .u64 x0, .int .u64 x1, .int .u64 x2, .int .u64 x3, .int .u64 x4, .int .u64 x5, .int .u64 x6, .int .u64 x7, .int .u64 y0, .int .u64 y1, .int .u64 y2, .int .u64 y3, .int .u64 y4, .int .u64 y5, .int .u64 y6, .int .u64 y7] 35) = wa at *
      generalize wr.heap.size = X at *
      have hXlt : X < wa.heap.size := (Array.getElem?_eq_some_iff.1 kx).1
      have allX : ∀ U, Below wa.heap.size wa U → U.cell? ⟨X, 0, none⟩ = some (.int .u64 x0) ∧ U.cell? ⟨X, 1, none⟩ = some (.int .u64 x1) ∧ U.cell? ⟨X, 2, none⟩ = some (.int .u64 x2) ∧ U.cell? ⟨X, 3, none⟩ = some (.int .u64 x3) ∧ U.cell? ⟨X, 4, none⟩ = some (.int .u64 x4) ∧ U.cell? ⟨X, 5, none⟩ = some (.int .u64 x5) ∧ U.cell? ⟨X, 6, none⟩ = some (.int .u64 x6) ∧ U.cell? ⟨X, 7, none⟩ = some (.int .u64 x7) ∧ U.cell? ⟨X, 8, none⟩ = some (.int .u64 y0) ∧ U.cell? ⟨X, 9, none⟩ = some (.int .u64 y1) ∧ U.cell? ⟨X, 10, none⟩ = some (.int .u64 y2) ∧ U.cell? ⟨X, 11, none⟩ = some (.int .u64 y3) ∧ U.cell? ⟨X, 12, none⟩ = some (.int .u64 y4) ∧ U.cell? ⟨X, 13, none⟩ = some (.int .u64 y5) ∧ U.cell? ⟨X, 14, none⟩ = some (.int .u64 y6) ∧ U.cell? ⟨X, 15, none⟩ = some (.int .u64 y7) := fun U hU => by
        have k1 := (hU.block X hXlt).trans kx
        exact ⟨(cellOf (j := 0) k1).trans rfl, (cellOf (j := 1) k1).trans rfl, (cellOf (j := 2) k1).trans rfl, (cellOf (j := 3) k1).trans rfl, (cellOf (j := 4) k1).trans rfl, (cellOf (j := 5) k1).trans rfl, (cellOf (j := 6) k1).trans rfl, (cellOf (j := 7) k1).trans rfl, (cellOf (j := 8) k1).trans rfl, (cellOf (j := 9) k1).trans rfl, (cellOf (j := 10) k1).trans rfl, (cellOf (j := 11) k1).trans rfl, (cellOf (j := 12) k1).trans rfl, (cellOf (j := 13) k1).trans rfl, (cellOf (j := 14) k1).trans rfl, (cellOf (j := 15) k1).trans rfl⟩
      have z0 : Below wa.heap.size wa wa := Below.refl _ _
      with_reducible refine (H0 _).mono ?_
      rintro e v0 ⟨r, rfl, rfl, hb0⟩
      have zz := next0 z0 hb0
      have z1 : Below wa.heap.size wa (v0.alloc (.cells #[.int .u64 r0, .int .u64 r1, .int .u64 r2, .int .u64 r3, .int .u64 r4, .int .u64 r5, .int .u64 r6, .int .u64 r7] 24)) := below_al zz _
      have kb0 := alloc_same v0 (.cells #[.int .u64 r0, .int .u64 r1, .int .u64 r2, .int .u64 r3, .int .u64 r4, .int .u64 r5, .int .u64 r6, .int .u64 r7] 24)
      obtain ⟨h100, h101, h102, h103, h104, h105, h106, h107, h108, h109, h110, h111, h112, h113, h114, h115⟩ := allX _ z1
      clear hb0 zz H0
      go_wp2_with fail
      generalize v0.alloc (.cells #[.int .u64 r0, .int .u64 r1, .int .u64 r2, .int .u64 r3, .int .u64 r4, .int .u64 r5, .int .u64 r6, .int .u64 r7] 24) = w10 at *
      generalize v0.heap.size = B0 at *
      clear h100 h101 h102 h103 h104 h105 h106 h107 h108 h109 h110 h111 h112 h113 h114 h115
      with_reducible refine (H1 _).mono ?_
      rintro e v1 ⟨r, rfl, rfl, hb1⟩
      have zz := next0 z1 hb1
      have z2 : Below wa.heap.size wa (v1.alloc (.cells #[.int .u64 r0, .int .u64 r1, .int .u64 r2, .int .u64 r3, .int .u64 r4, .int .u64 r5, .int .u64 r6, .int .u64 r7] 24)) := below_al zz _
      have hb1a : Below w10.heap.size w10 (v1.alloc (.cells #[.int .u64 r0, .int .u64 r1, .int .u64 r2, .int .u64 r3, .int .u64 r4, .int .u64 r5, .int .u64 r6, .int .u64 r7] 24)) := below_al hb1 _
      have kb0 := carry kb0 hb1a
      have kb1 := alloc_same v1 (.cells #[.int .u64 r0, .int .u64 r1, .int .u64 r2, .int .u64 r3, .int .u64 r4, .int .u64 r5, .int .u64 r6, .int .u64 r7] 24)
      obtain ⟨g0_0, g0_1, g0_2, g0_3, g0_4, g0_5, g0_6, g0_7⟩ : (v1.alloc (.cells #[.int .u64 r0, .int .u64 r1, .int .u64 r2, .int .u64 r3, .int .u64 r4, .int .u64 r5, .int .u64 r6, .int .u64 r7] 24)).cell? ⟨B0, 0, none⟩ = some (.int .u64 r0) ∧ (v1.alloc (.cells #[.int .u64 r0, .int .u64 r1, .int .u64 r2, .int .u64 r3, .int .u64 r4, .int .u64 r5, .int .u64 r6, .int .u64 r7] 24)).cell? ⟨B0, 1, none⟩ = some (.int .u64 r1) ∧ (v1.alloc (.cells #[.int .u64 r0, .int .u64 r1, .int .u64 r2, .int .u64 r3, .int .u64 r4, .int .u64 r5, .int .u64 r6, .int .u64 r7] 24)).cell? ⟨B0, 2, none⟩ = some (.int .u64 r2) ∧ (v1.alloc (.cells #[.int .u64 r0, .int .u64 r1, .int .u64 r2, .int .u64 r3, .int .u64 r4, .int .u64 r5, .int .u64 r6, .int .u64 r7] 24)).cell? ⟨B0, 3, none⟩ = some (.int .u64 r3) ∧ (v1.alloc (.cells #[.int .u64 r0, .int .u64 r1, .int .u64 r2, .int .u64 r3, .int .u64 r4, .int .u64 r5, .int .u64 r6, .int .u64 r7] 24)).cell? ⟨B0, 4, none⟩ = some (.int .u64 r4) ∧ (v1.alloc (.cells #[.int .u64 r0, .int .u64 r1, .int .u64 r2, .int .u64 r3, .int .u64 r4, .int .u64 r5, .int .u64 r6, .int .u64 r7] 24)).cell? ⟨B0, 5, none⟩ = some (.int .u64 r5) ∧ (v1.alloc (.cells #[.int .u64 r0, .int .u64 r1, .int .u64 r2, .int .u64 r3, .int .u64 r4, .int .u64 r5, .int .u64 r6, .int .u64 r7] 24)).cell? ⟨B0, 6, none⟩ = some (.int .u64 r6) ∧ (v1.alloc (.cells #[.int .u64 r0, .int .u64 r1, .int .u64 r2, .int .u64 r3, .int .u64 r4, .int .u64 r5, .int .u64 r6, .int .u64 r7] 24)).cell? ⟨B0, 7, none⟩ = some (.int .u64 r7) := ⟨(cellOf (j := 0) kb0).trans rfl, (cellOf (j := 1) kb0).trans rfl, (cellOf (j := 2) kb0).trans rfl, (cellOf (j := 3) kb0).trans rfl, (cellOf (j := 4) kb0).trans rfl, (cellOf (j := 5) kb0).trans rfl, (cellOf (j := 6) kb0).trans rfl, (cellOf (j := 7) kb0).trans rfl⟩
      obtain ⟨g1_0, g1_1, g1_2, g1_3, g1_4, g1_5, g1_6, g1_7⟩ : (v1.alloc (.cells #[.int .u64 r0, .int .u64 r1, .int .u64 r2, .int .u64 r3, .int .u64 r4, .int .u64 r5, .int .u64 r6, .int .u64 r7] 24)).cell? ⟨v1.heap.size, 0, none⟩ = some (.int .u64 r0) ∧ (v1.alloc (.cells #[.int .u64 r0, .int .u64 r1, .int .u64 r2, .int .u64 r3, .int .u64 r4, .int .u64 r5, .int .u64 r6, .int .u64 r7] 24)).cell? ⟨v1.heap.size, 1, none⟩ = some (.int .u64 r1) ∧ (v1.alloc (.cells #[.int .u64 r0, .int .u64 r1, .int .u64 r2, .int .u64 r3, .int .u64 r4, .int .u64 r5, .int .u64 r6, .int .u64 r7] 24)).cell? ⟨v1.heap.size, 2, none⟩ = some (.int .u64 r2) ∧ (v1.alloc (.cells #[.int .u64 r0, .int .u64 r1, .int .u64 r2, .int .u64 r3, .int .u64 r4, .int .u64 r5, .int .u64 r6, .int .u64 r7] 24)).cell? ⟨v1.heap.size, 3, none⟩ = some (.int .u64 r3) ∧ (v1.alloc (.cells #[.int .u64 r0, .int .u64 r1, .int .u64 r2, .int .u64 r3, .int .u64 r4, .int .u64 r5, .int .u64 r6, .int .u64 r7] 24)).cell? ⟨v1.heap.size, 4, none⟩ = some (.int .u64 r4) ∧ (v1.alloc (.cells #[.int .u64 r0, .int .u64 r1, .int .u64 r2, .int .u64 r3, .int .u64 r4, .int .u64 r5, .int .u64 r6, .int .u64 r7] 24)).cell? ⟨v1.heap.size, 5, none⟩ = some (.int .u64 r5) ∧ (v1.alloc (.cells #[.int .u64 r0, .int .u64 r1, .int .u64 r2, .int .u64 r3, .int .u64 r4, .int .u64 r5, .int .u64 r6, .int .u64 r7] 24)).cell? ⟨v1.heap.size, 6, none⟩ = some (.int .u64 r6) ∧ (v1.alloc (.cells #[.int .u64 r0, .int .u64 r1, .int .u64 r2, .int .u64 r3, .int .u64 r4, .int .u64 r5, .int .u64 r6, .int .u64 r7] 24)).cell? ⟨v1.heap.size, 7, none⟩ = some (.int .u64 r7) := ⟨(cellOf (j := 0) kb1).trans rfl, (cellOf (j := 1) kb1).trans rfl, (cellOf (j := 2) kb1).trans rfl, (cellOf (j := 3) kb1).trans rfl, (cellOf (j := 4) kb1).trans rfl, (cellOf (j := 5) kb1).trans rfl, (cellOf (j := 6) kb1).trans rfl, (cellOf (j := 7) kb1).trans rfl⟩
      have hBe : Below w7.heap.size w7 (v1.alloc (.cells #[.int .u64 r0, .int .u64 r1, .int .u64 r2, .int .u64 r3, .int .u64 r4, .int .u64 r5, .int .u64 r6, .int .u64 r7] 24)) := hBa.trans (z2.mono hBa.size)
      clear allX kx hBa z0 z1 z2 zz hb1 hb1a H1 kb0 kb1
      go_wp2
      go_roundw
      case rel => exact ⟨k + 1, rfl, by omega, hBe⟩
      case measure => simp [intOf]; omega
    · obtain rfl : k = 4 := by omega
      go_wp2
      exact hB
end Go.Proofs.YtedhjlkidcojhaaGreat
