/-
  The loop of the law WidePowers.
-/
import Derived.Test.YtedhjlkidcojhaaMSF
set_option linter.all false
namespace Go.Proofs.Ytedhjlkidcojhaa
open Go Go.Rx Go.RowKit Go.Big
attribute [local instance] noAv
set_option maxHeartbeats 8000000 in
set_option maxRecDepth 100000 in
theorem powers_loop {w7 : World} {base g cap : Nat} {qs : List (Int × Int)} (hq : ∀ p ∈ qs, fit p.1 ∧ fit p.2) (hl : qs.length = 6) (hown : w7.ownsRow base 34 16 (.slice (some ⟨g, 0, none⟩) 6 cap) 6 (qs.flatMap cellsP)) (n : Int) (hn0 : -9223372036854775808 ≤ n) (hn1 : n ≤ 9223372036854775807)
    (c0 c2 c3 c5 c7 c17 c18 c19 u4 u6 u8 u9 u10 u11 u12 u13 u14 u15 u16 u23 u24 u25 u26 u27 u28 u29 u30 u31 u32 u33 u34 u35 u36 u37 u38 u39 u40 u41 u42 u43 u44 u45 u46 u47 u48 u49 u50 u51 u52 u53 u54 u55 u56 u57 u58 u59 u60 u61 u62 u63 u64 u65 u66 u67 u68 u69 u70 u71 u72 u73 u74 u75 u76 u77 u78 : Value) (Q : Exit → Act → World → Prop)
    (hQ : ∀ (u4 u6 u8 u9 u10 u11 u12 u13 u14 u15 u16 u23 u24 u25 u26 u27 u28 u29 u30 u31 u32 u33 u34 u35 u36 u37 u38 u39 u40 u41 u42 u43 u44 u45 u46 u47 u48 u49 u50 u51 u52 u53 u54 u55 u56 u57 u58 u59 u60 u61 u62 u63 u64 u65 u66 u67 u68 u69 u70 u71 u72 u73 u74 u75 u76 u77 u78 : Value) (W : World), Below w7.heap.size w7 W → Q (.exit 0) ⟨(List.toArray (c0 :: (.int .i64 n) :: c2 :: c3 :: u4 :: c5 :: u6 :: c7 :: u8 :: u9 :: u10 :: u11 :: u12 :: u13 :: u14 :: u15 :: u16 :: c17 :: c18 :: c19 :: (.slice (some ⟨g, 0, none⟩) 6 cap) :: (.int .i64 6) :: (.int .i64 6) :: u23 :: u24 :: u25 :: u26 :: u27 :: u28 :: u29 :: u30 :: u31 :: u32 :: u33 :: u34 :: u35 :: u36 :: u37 :: u38 :: u39 :: u40 :: u41 :: u42 :: u43 :: u44 :: u45 :: u46 :: u47 :: u48 :: u49 :: u50 :: u51 :: u52 :: u53 :: u54 :: u55 :: u56 :: u57 :: u58 :: u59 :: u60 :: u61 :: u62 :: u63 :: u64 :: u65 :: u66 :: u67 :: u68 :: u69 :: u70 :: u71 :: u72 :: u73 :: u74 :: u75 :: u76 :: u77 :: u78 :: [])), []⟩ W) :
    Code.wp Try.prog powersL Q ⟨(List.toArray (c0 :: (.int .i64 n) :: c2 :: c3 :: u4 :: c5 :: u6 :: c7 :: u8 :: u9 :: u10 :: u11 :: u12 :: u13 :: u14 :: u15 :: u16 :: c17 :: c18 :: c19 :: (.slice (some ⟨g, 0, none⟩) 6 cap) :: (.int .i64 6) :: (.int .i64 0) :: u23 :: u24 :: u25 :: u26 :: u27 :: u28 :: u29 :: u30 :: u31 :: u32 :: u33 :: u34 :: u35 :: u36 :: u37 :: u38 :: u39 :: u40 :: u41 :: u42 :: u43 :: u44 :: u45 :: u46 :: u47 :: u48 :: u49 :: u50 :: u51 :: u52 :: u53 :: u54 :: u55 :: u56 :: u57 :: u58 :: u59 :: u60 :: u61 :: u62 :: u63 :: u64 :: u65 :: u66 :: u67 :: u68 :: u69 :: u70 :: u71 :: u72 :: u73 :: u74 :: u75 :: u76 :: u77 :: u78 :: [])), []⟩ w7 := by
  obtain ⟨g', cap', hg', -, hglt⟩ := hown.form (by decide)
  obtain ⟨rfl, rfl⟩ : g = g' ∧ cap = cap' := by injection hg' with h1 h2 h3; injection h1 with h1; injection h1 with h1; exact ⟨h1, h3⟩
  clear hg'
  conv => arg 2; whnf
  go_loopw [22] (fun i wr => ∃ k : Nat, i = .int .i64 k ∧ k ≤ 6 ∧ Below w7.heap.size w7 wr) (fun i _ => 6 - (intOf i).toNat)
  case atStart => exact ⟨0, rfl, by omega, Below.refl _ _⟩
  case round =>
    obtain ⟨k, rfl, hk, hB⟩ := hrel
    by_cases h7 : k < 6
    · obtain ⟨x, y, hxy⟩ : ∃ x y, qs.getD k (0, 0) = (x, y) := ⟨_, _, rfl⟩
      have hmem := hq _ (qs_mem (by rw [hl]; exact h7))
      rw [hxy] at hmem
      obtain ⟨hx, hy⟩ := hmem
      obtain ⟨x0, x1, x2, x3, x4, x5, x6, x7, -, -, hwx⟩ := words_of hx
      obtain ⟨y0, y1, y2, y3, y4, y5, y6, y7, -, -, hwy⟩ := words_of hy
      obtain ⟨h100, h101, h102, h103, h104, h105, h106, h107, h108, h109, h110, h111, h112, h113, h114, h115⟩ := pair_cells6 (own_of_block hown (fun b _ hb => hB.block b hb)) hl h7 hxy hwx hwy
      clear hwy hq hown hxy
      go_wp2
      obtain ⟨m, hm, hm0, hm1⟩ : ∃ m : Int, wrap64 ((IntKind.u64.wrap n).tmod 20) = m ∧ 0 ≤ m ∧ m < 20 := by
        refine ⟨_, rfl, ?_⟩
        have h1 : 0 ≤ IntKind.u64.wrap n := by rw [IntKind.wrap_u64]; omega
        rw [Int.tmod_eq_emod_of_nonneg h1]
        unfold wrap64
        omega
      rw [hm]
      clear hm
      obtain ⟨rp, ep, hrp, H0, H1⟩ := pow_words x n hx hn0 hn1
      obtain ⟨rq, eq, hrq, H2, H3⟩ := pow_words x m hx (by omega) (by omega)
      obtain ⟨rr, er, hrr, H4, H5⟩ := root_words x hx
      obtain ⟨p0, p1, p2, p3, p4, p5, p6, p7, -, -, hwp⟩ := words_of hrp
      simp only [hwx, hwp] at H0 H1
      have Ep := eq8_same p0 p1 p2 p3 p4 p5 p6 p7
      obtain ⟨q0, q1, q2, q3, q4, q5, q6, q7, -, -, hwq⟩ := words_of hrq
      simp only [hwx, hwq] at H2 H3
      have Eq := eq8_same q0 q1 q2 q3 q4 q5 q6 q7
      obtain ⟨r0, r1, r2, r3, r4, r5, r6, r7, -, -, hwr⟩ := words_of hrr
      simp only [hwx, hwr] at H4 H5
      have Er := eq8_same r0 r1 r2 r3 r4 r5 r6 r7
      clear hwx hwp hwq hwr hrp hrq hrr hx hy h100 h101 h102 h103 h104 h105 h106 h107 h108 h109 h110 h111 h112 h113 h114 h115 hn0 hn1
      have kx := (MapKept.heap_alloc wr (.cells #[.int .u64 x0, .int .u64 x1, .int .u64 x2, .int .u64 x3, .int .u64 x4, .int .u64 x5, .int .u64 x6, .int .u64 x7, .int .u64 y0, .int .u64 y1, .int .u64 y2, .int .u64 y3, .int .u64 y4, .int .u64 y5, .int .u64 y6, .int .u64 y7] 34)).1
      have hBa : Below w7.heap.size w7 (wr.alloc (.cells #[.int .u64 x0, .int .u64 x1, .int .u64 x2, .int .u64 x3, .int .u64 x4, .int .u64 x5, .int .u64 x6, .int .u64 x7, .int .u64 y0, .int .u64 y1, .int .u64 y2, .int .u64 y3, .int .u64 y4, .int .u64 y5, .int .u64 y6, .int .u64 y7] 34)) := hB.alloc hB.size _
      clear hB
      generalize wr.alloc (.cells #[.int .u64 x0, .int .u64 x1, .int .u64 x2, .int .u64 x3, .int .u64 x4, .int .u64 x5, .int .u64 x6, .int .u64 x7, .int .u64 y0, .int .u64 y1, .int .u64 y2, .int .u64 y3, .int .u64 y4, .int .u64 y5, .int .u64 y6, .int .u64 y7] 34) = wa at *
      generalize wr.heap.size = X at *
      have hXlt : X < wa.heap.size := (Array.getElem?_eq_some_iff.1 kx).1
      have allX : ∀ U, Below wa.heap.size wa U → U.cell? ⟨X, 0, none⟩ = some (.int .u64 x0) ∧ U.cell? ⟨X, 1, none⟩ = some (.int .u64 x1) ∧ U.cell? ⟨X, 2, none⟩ = some (.int .u64 x2) ∧ U.cell? ⟨X, 3, none⟩ = some (.int .u64 x3) ∧ U.cell? ⟨X, 4, none⟩ = some (.int .u64 x4) ∧ U.cell? ⟨X, 5, none⟩ = some (.int .u64 x5) ∧ U.cell? ⟨X, 6, none⟩ = some (.int .u64 x6) ∧ U.cell? ⟨X, 7, none⟩ = some (.int .u64 x7) ∧ U.cell? ⟨X, 8, none⟩ = some (.int .u64 y0) ∧ U.cell? ⟨X, 9, none⟩ = some (.int .u64 y1) ∧ U.cell? ⟨X, 10, none⟩ = some (.int .u64 y2) ∧ U.cell? ⟨X, 11, none⟩ = some (.int .u64 y3) ∧ U.cell? ⟨X, 12, none⟩ = some (.int .u64 y4) ∧ U.cell? ⟨X, 13, none⟩ = some (.int .u64 y5) ∧ U.cell? ⟨X, 14, none⟩ = some (.int .u64 y6) ∧ U.cell? ⟨X, 15, none⟩ = some (.int .u64 y7) := fun U hU => by
        have k1 := (hU.block X hXlt).trans kx
        exact ⟨(cellOf (j := 0) k1).trans rfl, (cellOf (j := 1) k1).trans rfl, (cellOf (j := 2) k1).trans rfl, (cellOf (j := 3) k1).trans rfl, (cellOf (j := 4) k1).trans rfl, (cellOf (j := 5) k1).trans rfl, (cellOf (j := 6) k1).trans rfl, (cellOf (j := 7) k1).trans rfl, (cellOf (j := 8) k1).trans rfl, (cellOf (j := 9) k1).trans rfl, (cellOf (j := 10) k1).trans rfl, (cellOf (j := 11) k1).trans rfl, (cellOf (j := 12) k1).trans rfl, (cellOf (j := 13) k1).trans rfl, (cellOf (j := 14) k1).trans rfl, (cellOf (j := 15) k1).trans rfl⟩
      have z0 : Below wa.heap.size wa wa := Below.refl _ _
      obtain ⟨h100, h101, h102, h103, h104, h105, h106, h107, h108, h109, h110, h111, h112, h113, h114, h115⟩ := allX _ z0
      have i0 : ∀ W : World, (Instr.index 36 (.agg #[.int .i64 n, .int .i64 m]) (.int .i64 0)).run Try.prog W = .ok (.int .i64 n) W := fun _ => by kernel_rfl
      have i1 : ∀ W : World, (Instr.index 36 (.agg #[.int .i64 n, .int .i64 m]) (.int .i64 1)).run Try.prog W = .ok (.int .i64 m) W := fun _ => by kernel_rfl
      refine wp_loop_rounds 3 ?_
      rw [rounds_succ]
      go_wp2_with fail
      with_reducible refine (H0 _).mono ?_
      rintro e v0 ⟨r, rfl, rfl, hb0⟩
      have zz := next0 z0 hb0
      have z1 : Below wa.heap.size wa (v0.alloc (.cells #[.int .u64 p0, .int .u64 p1, .int .u64 p2, .int .u64 p3, .int .u64 p4, .int .u64 p5, .int .u64 p6, .int .u64 p7] 24)) := zz.alloc zz.size _
      have k0 := (MapKept.heap_alloc v0 (.cells #[.int .u64 p0, .int .u64 p1, .int .u64 p2, .int .u64 p3, .int .u64 p4, .int .u64 p5, .int .u64 p6, .int .u64 p7] 24)).1
      clear hb0 zz H0 h100 h101 h102 h103 h104 h105 h106 h107 h108 h109 h110 h111 h112 h113 h114 h115
      obtain ⟨h100, h101, h102, h103, h104, h105, h106, h107, h108, h109, h110, h111, h112, h113, h114, h115⟩ := allX _ z1
      go_wp2_with fail
      generalize v0.alloc (.cells #[.int .u64 p0, .int .u64 p1, .int .u64 p2, .int .u64 p3, .int .u64 p4, .int .u64 p5, .int .u64 p6, .int .u64 p7] 24) = w10 at *
      generalize v0.heap.size = B0 at *
      with_reducible refine (H1 _).mono ?_
      rintro e v1 ⟨r, rfl, rfl, hb1⟩
      have zz := next0 z1 hb1
      have z2 : Below wa.heap.size wa (v1.alloc (.cells #[.int .u64 p0, .int .u64 p1, .int .u64 p2, .int .u64 p3, .int .u64 p4, .int .u64 p5, .int .u64 p6, .int .u64 p7] 24)) := zz.alloc zz.size _
      have k0 := stepB k0 hb1 (.cells #[.int .u64 p0, .int .u64 p1, .int .u64 p2, .int .u64 p3, .int .u64 p4, .int .u64 p5, .int .u64 p6, .int .u64 p7] 24)
      have k1 := (MapKept.heap_alloc v1 (.cells #[.int .u64 p0, .int .u64 p1, .int .u64 p2, .int .u64 p3, .int .u64 p4, .int .u64 p5, .int .u64 p6, .int .u64 p7] 24)).1
      clear hb1 zz H1 h100 h101 h102 h103 h104 h105 h106 h107 h108 h109 h110 h111 h112 h113 h114 h115
      obtain ⟨h100, h101, h102, h103, h104, h105, h106, h107, h108, h109, h110, h111, h112, h113, h114, h115⟩ := allX _ z2
      obtain ⟨g0_0, g0_1, g0_2, g0_3, g0_4, g0_5, g0_6, g0_7⟩ : (v1.alloc (.cells #[.int .u64 p0, .int .u64 p1, .int .u64 p2, .int .u64 p3, .int .u64 p4, .int .u64 p5, .int .u64 p6, .int .u64 p7] 24)).cell? ⟨B0, 0, none⟩ = some (.int .u64 p0) ∧ (v1.alloc (.cells #[.int .u64 p0, .int .u64 p1, .int .u64 p2, .int .u64 p3, .int .u64 p4, .int .u64 p5, .int .u64 p6, .int .u64 p7] 24)).cell? ⟨B0, 1, none⟩ = some (.int .u64 p1) ∧ (v1.alloc (.cells #[.int .u64 p0, .int .u64 p1, .int .u64 p2, .int .u64 p3, .int .u64 p4, .int .u64 p5, .int .u64 p6, .int .u64 p7] 24)).cell? ⟨B0, 2, none⟩ = some (.int .u64 p2) ∧ (v1.alloc (.cells #[.int .u64 p0, .int .u64 p1, .int .u64 p2, .int .u64 p3, .int .u64 p4, .int .u64 p5, .int .u64 p6, .int .u64 p7] 24)).cell? ⟨B0, 3, none⟩ = some (.int .u64 p3) ∧ (v1.alloc (.cells #[.int .u64 p0, .int .u64 p1, .int .u64 p2, .int .u64 p3, .int .u64 p4, .int .u64 p5, .int .u64 p6, .int .u64 p7] 24)).cell? ⟨B0, 4, none⟩ = some (.int .u64 p4) ∧ (v1.alloc (.cells #[.int .u64 p0, .int .u64 p1, .int .u64 p2, .int .u64 p3, .int .u64 p4, .int .u64 p5, .int .u64 p6, .int .u64 p7] 24)).cell? ⟨B0, 5, none⟩ = some (.int .u64 p5) ∧ (v1.alloc (.cells #[.int .u64 p0, .int .u64 p1, .int .u64 p2, .int .u64 p3, .int .u64 p4, .int .u64 p5, .int .u64 p6, .int .u64 p7] 24)).cell? ⟨B0, 6, none⟩ = some (.int .u64 p6) ∧ (v1.alloc (.cells #[.int .u64 p0, .int .u64 p1, .int .u64 p2, .int .u64 p3, .int .u64 p4, .int .u64 p5, .int .u64 p6, .int .u64 p7] 24)).cell? ⟨B0, 7, none⟩ = some (.int .u64 p7) := ⟨(cellOf (j := 0) k0).trans rfl, (cellOf (j := 1) k0).trans rfl, (cellOf (j := 2) k0).trans rfl, (cellOf (j := 3) k0).trans rfl, (cellOf (j := 4) k0).trans rfl, (cellOf (j := 5) k0).trans rfl, (cellOf (j := 6) k0).trans rfl, (cellOf (j := 7) k0).trans rfl⟩
      obtain ⟨g1_0, g1_1, g1_2, g1_3, g1_4, g1_5, g1_6, g1_7⟩ : (v1.alloc (.cells #[.int .u64 p0, .int .u64 p1, .int .u64 p2, .int .u64 p3, .int .u64 p4, .int .u64 p5, .int .u64 p6, .int .u64 p7] 24)).cell? ⟨v1.heap.size, 0, none⟩ = some (.int .u64 p0) ∧ (v1.alloc (.cells #[.int .u64 p0, .int .u64 p1, .int .u64 p2, .int .u64 p3, .int .u64 p4, .int .u64 p5, .int .u64 p6, .int .u64 p7] 24)).cell? ⟨v1.heap.size, 1, none⟩ = some (.int .u64 p1) ∧ (v1.alloc (.cells #[.int .u64 p0, .int .u64 p1, .int .u64 p2, .int .u64 p3, .int .u64 p4, .int .u64 p5, .int .u64 p6, .int .u64 p7] 24)).cell? ⟨v1.heap.size, 2, none⟩ = some (.int .u64 p2) ∧ (v1.alloc (.cells #[.int .u64 p0, .int .u64 p1, .int .u64 p2, .int .u64 p3, .int .u64 p4, .int .u64 p5, .int .u64 p6, .int .u64 p7] 24)).cell? ⟨v1.heap.size, 3, none⟩ = some (.int .u64 p3) ∧ (v1.alloc (.cells #[.int .u64 p0, .int .u64 p1, .int .u64 p2, .int .u64 p3, .int .u64 p4, .int .u64 p5, .int .u64 p6, .int .u64 p7] 24)).cell? ⟨v1.heap.size, 4, none⟩ = some (.int .u64 p4) ∧ (v1.alloc (.cells #[.int .u64 p0, .int .u64 p1, .int .u64 p2, .int .u64 p3, .int .u64 p4, .int .u64 p5, .int .u64 p6, .int .u64 p7] 24)).cell? ⟨v1.heap.size, 5, none⟩ = some (.int .u64 p5) ∧ (v1.alloc (.cells #[.int .u64 p0, .int .u64 p1, .int .u64 p2, .int .u64 p3, .int .u64 p4, .int .u64 p5, .int .u64 p6, .int .u64 p7] 24)).cell? ⟨v1.heap.size, 6, none⟩ = some (.int .u64 p6) ∧ (v1.alloc (.cells #[.int .u64 p0, .int .u64 p1, .int .u64 p2, .int .u64 p3, .int .u64 p4, .int .u64 p5, .int .u64 p6, .int .u64 p7] 24)).cell? ⟨v1.heap.size, 7, none⟩ = some (.int .u64 p7) := ⟨(cellOf (j := 0) k1).trans rfl, (cellOf (j := 1) k1).trans rfl, (cellOf (j := 2) k1).trans rfl, (cellOf (j := 3) k1).trans rfl, (cellOf (j := 4) k1).trans rfl, (cellOf (j := 5) k1).trans rfl, (cellOf (j := 6) k1).trans rfl, (cellOf (j := 7) k1).trans rfl⟩
      clear k0 k1
      go_wp2
      generalize v1.alloc (.cells #[.int .u64 p0, .int .u64 p1, .int .u64 p2, .int .u64 p3, .int .u64 p4, .int .u64 p5, .int .u64 p6, .int .u64 p7] 24) = w11 at *
      clear g0_0 g0_1 g0_2 g0_3 g0_4 g0_5 g0_6 g0_7 g1_0 g1_1 g1_2 g1_3 g1_4 g1_5 g1_6 g1_7 
      rw [rounds_succ]
      go_wp2_with fail
      with_reducible refine (H2 _).mono ?_
      rintro e v2 ⟨r, rfl, rfl, hb2⟩
      have zz := next0 z2 hb2
      have z3 : Below wa.heap.size wa (v2.alloc (.cells #[.int .u64 q0, .int .u64 q1, .int .u64 q2, .int .u64 q3, .int .u64 q4, .int .u64 q5, .int .u64 q6, .int .u64 q7] 24)) := zz.alloc zz.size _
      have k2 := (MapKept.heap_alloc v2 (.cells #[.int .u64 q0, .int .u64 q1, .int .u64 q2, .int .u64 q3, .int .u64 q4, .int .u64 q5, .int .u64 q6, .int .u64 q7] 24)).1
      clear hb2 zz H2 h100 h101 h102 h103 h104 h105 h106 h107 h108 h109 h110 h111 h112 h113 h114 h115
      obtain ⟨h100, h101, h102, h103, h104, h105, h106, h107, h108, h109, h110, h111, h112, h113, h114, h115⟩ := allX _ z3
      go_wp2_with fail
      generalize v2.alloc (.cells #[.int .u64 q0, .int .u64 q1, .int .u64 q2, .int .u64 q3, .int .u64 q4, .int .u64 q5, .int .u64 q6, .int .u64 q7] 24) = w12 at *
      generalize v2.heap.size = B2 at *
      with_reducible refine (H3 _).mono ?_
      rintro e v3 ⟨r, rfl, rfl, hb3⟩
      have zz := next0 z3 hb3
      have z4 : Below wa.heap.size wa (v3.alloc (.cells #[.int .u64 q0, .int .u64 q1, .int .u64 q2, .int .u64 q3, .int .u64 q4, .int .u64 q5, .int .u64 q6, .int .u64 q7] 24)) := zz.alloc zz.size _
      have k2 := stepB k2 hb3 (.cells #[.int .u64 q0, .int .u64 q1, .int .u64 q2, .int .u64 q3, .int .u64 q4, .int .u64 q5, .int .u64 q6, .int .u64 q7] 24)
      have k3 := (MapKept.heap_alloc v3 (.cells #[.int .u64 q0, .int .u64 q1, .int .u64 q2, .int .u64 q3, .int .u64 q4, .int .u64 q5, .int .u64 q6, .int .u64 q7] 24)).1
      clear hb3 zz H3 h100 h101 h102 h103 h104 h105 h106 h107 h108 h109 h110 h111 h112 h113 h114 h115
      obtain ⟨h100, h101, h102, h103, h104, h105, h106, h107, h108, h109, h110, h111, h112, h113, h114, h115⟩ := allX _ z4
      obtain ⟨g2_0, g2_1, g2_2, g2_3, g2_4, g2_5, g2_6, g2_7⟩ : (v3.alloc (.cells #[.int .u64 q0, .int .u64 q1, .int .u64 q2, .int .u64 q3, .int .u64 q4, .int .u64 q5, .int .u64 q6, .int .u64 q7] 24)).cell? ⟨B2, 0, none⟩ = some (.int .u64 q0) ∧ (v3.alloc (.cells #[.int .u64 q0, .int .u64 q1, .int .u64 q2, .int .u64 q3, .int .u64 q4, .int .u64 q5, .int .u64 q6, .int .u64 q7] 24)).cell? ⟨B2, 1, none⟩ = some (.int .u64 q1) ∧ (v3.alloc (.cells #[.int .u64 q0, .int .u64 q1, .int .u64 q2, .int .u64 q3, .int .u64 q4, .int .u64 q5, .int .u64 q6, .int .u64 q7] 24)).cell? ⟨B2, 2, none⟩ = some (.int .u64 q2) ∧ (v3.alloc (.cells #[.int .u64 q0, .int .u64 q1, .int .u64 q2, .int .u64 q3, .int .u64 q4, .int .u64 q5, .int .u64 q6, .int .u64 q7] 24)).cell? ⟨B2, 3, none⟩ = some (.int .u64 q3) ∧ (v3.alloc (.cells #[.int .u64 q0, .int .u64 q1, .int .u64 q2, .int .u64 q3, .int .u64 q4, .int .u64 q5, .int .u64 q6, .int .u64 q7] 24)).cell? ⟨B2, 4, none⟩ = some (.int .u64 q4) ∧ (v3.alloc (.cells #[.int .u64 q0, .int .u64 q1, .int .u64 q2, .int .u64 q3, .int .u64 q4, .int .u64 q5, .int .u64 q6, .int .u64 q7] 24)).cell? ⟨B2, 5, none⟩ = some (.int .u64 q5) ∧ (v3.alloc (.cells #[.int .u64 q0, .int .u64 q1, .int .u64 q2, .int .u64 q3, .int .u64 q4, .int .u64 q5, .int .u64 q6, .int .u64 q7] 24)).cell? ⟨B2, 6, none⟩ = some (.int .u64 q6) ∧ (v3.alloc (.cells #[.int .u64 q0, .int .u64 q1, .int .u64 q2, .int .u64 q3, .int .u64 q4, .int .u64 q5, .int .u64 q6, .int .u64 q7] 24)).cell? ⟨B2, 7, none⟩ = some (.int .u64 q7) := ⟨(cellOf (j := 0) k2).trans rfl, (cellOf (j := 1) k2).trans rfl, (cellOf (j := 2) k2).trans rfl, (cellOf (j := 3) k2).trans rfl, (cellOf (j := 4) k2).trans rfl, (cellOf (j := 5) k2).trans rfl, (cellOf (j := 6) k2).trans rfl, (cellOf (j := 7) k2).trans rfl⟩
      obtain ⟨g3_0, g3_1, g3_2, g3_3, g3_4, g3_5, g3_6, g3_7⟩ : (v3.alloc (.cells #[.int .u64 q0, .int .u64 q1, .int .u64 q2, .int .u64 q3, .int .u64 q4, .int .u64 q5, .int .u64 q6, .int .u64 q7] 24)).cell? ⟨v3.heap.size, 0, none⟩ = some (.int .u64 q0) ∧ (v3.alloc (.cells #[.int .u64 q0, .int .u64 q1, .int .u64 q2, .int .u64 q3, .int .u64 q4, .int .u64 q5, .int .u64 q6, .int .u64 q7] 24)).cell? ⟨v3.heap.size, 1, none⟩ = some (.int .u64 q1) ∧ (v3.alloc (.cells #[.int .u64 q0, .int .u64 q1, .int .u64 q2, .int .u64 q3, .int .u64 q4, .int .u64 q5, .int .u64 q6, .int .u64 q7] 24)).cell? ⟨v3.heap.size, 2, none⟩ = some (.int .u64 q2) ∧ (v3.alloc (.cells #[.int .u64 q0, .int .u64 q1, .int .u64 q2, .int .u64 q3, .int .u64 q4, .int .u64 q5, .int .u64 q6, .int .u64 q7] 24)).cell? ⟨v3.heap.size, 3, none⟩ = some (.int .u64 q3) ∧ (v3.alloc (.cells #[.int .u64 q0, .int .u64 q1, .int .u64 q2, .int .u64 q3, .int .u64 q4, .int .u64 q5, .int .u64 q6, .int .u64 q7] 24)).cell? ⟨v3.heap.size, 4, none⟩ = some (.int .u64 q4) ∧ (v3.alloc (.cells #[.int .u64 q0, .int .u64 q1, .int .u64 q2, .int .u64 q3, .int .u64 q4, .int .u64 q5, .int .u64 q6, .int .u64 q7] 24)).cell? ⟨v3.heap.size, 5, none⟩ = some (.int .u64 q5) ∧ (v3.alloc (.cells #[.int .u64 q0, .int .u64 q1, .int .u64 q2, .int .u64 q3, .int .u64 q4, .int .u64 q5, .int .u64 q6, .int .u64 q7] 24)).cell? ⟨v3.heap.size, 6, none⟩ = some (.int .u64 q6) ∧ (v3.alloc (.cells #[.int .u64 q0, .int .u64 q1, .int .u64 q2, .int .u64 q3, .int .u64 q4, .int .u64 q5, .int .u64 q6, .int .u64 q7] 24)).cell? ⟨v3.heap.size, 7, none⟩ = some (.int .u64 q7) := ⟨(cellOf (j := 0) k3).trans rfl, (cellOf (j := 1) k3).trans rfl, (cellOf (j := 2) k3).trans rfl, (cellOf (j := 3) k3).trans rfl, (cellOf (j := 4) k3).trans rfl, (cellOf (j := 5) k3).trans rfl, (cellOf (j := 6) k3).trans rfl, (cellOf (j := 7) k3).trans rfl⟩
      clear k2 k3
      go_wp2
      generalize v3.alloc (.cells #[.int .u64 q0, .int .u64 q1, .int .u64 q2, .int .u64 q3, .int .u64 q4, .int .u64 q5, .int .u64 q6, .int .u64 q7] 24) = w13 at *
      clear g2_0 g2_1 g2_2 g2_3 g2_4 g2_5 g2_6 g2_7 g3_0 g3_1 g3_2 g3_3 g3_4 g3_5 g3_6 g3_7 
      rw [rounds_succ]
      go_wp2_with fail
      with_reducible refine (H4 _).mono ?_
      rintro e v4 ⟨r, rfl, rfl, hb4⟩
      have zz := next0 z4 hb4
      have z5 : Below wa.heap.size wa (v4.alloc (.cells #[.int .u64 r0, .int .u64 r1, .int .u64 r2, .int .u64 r3, .int .u64 r4, .int .u64 r5, .int .u64 r6, .int .u64 r7] 24)) := zz.alloc zz.size _
      have k4 := (MapKept.heap_alloc v4 (.cells #[.int .u64 r0, .int .u64 r1, .int .u64 r2, .int .u64 r3, .int .u64 r4, .int .u64 r5, .int .u64 r6, .int .u64 r7] 24)).1
      clear hb4 zz H4 h100 h101 h102 h103 h104 h105 h106 h107 h108 h109 h110 h111 h112 h113 h114 h115
      obtain ⟨h100, h101, h102, h103, h104, h105, h106, h107, h108, h109, h110, h111, h112, h113, h114, h115⟩ := allX _ z5
      go_wp2_with fail
      generalize v4.alloc (.cells #[.int .u64 r0, .int .u64 r1, .int .u64 r2, .int .u64 r3, .int .u64 r4, .int .u64 r5, .int .u64 r6, .int .u64 r7] 24) = w14 at *
      generalize v4.heap.size = B4 at *
      with_reducible refine (H5 _).mono ?_
      rintro e v5 ⟨r, rfl, rfl, hb5⟩
      have zz := next0 z5 hb5
      have z6 : Below wa.heap.size wa (v5.alloc (.cells #[.int .u64 r0, .int .u64 r1, .int .u64 r2, .int .u64 r3, .int .u64 r4, .int .u64 r5, .int .u64 r6, .int .u64 r7] 24)) := zz.alloc zz.size _
      have k4 := stepB k4 hb5 (.cells #[.int .u64 r0, .int .u64 r1, .int .u64 r2, .int .u64 r3, .int .u64 r4, .int .u64 r5, .int .u64 r6, .int .u64 r7] 24)
      have k5 := (MapKept.heap_alloc v5 (.cells #[.int .u64 r0, .int .u64 r1, .int .u64 r2, .int .u64 r3, .int .u64 r4, .int .u64 r5, .int .u64 r6, .int .u64 r7] 24)).1
      clear hb5 zz H5 h100 h101 h102 h103 h104 h105 h106 h107 h108 h109 h110 h111 h112 h113 h114 h115
      obtain ⟨h100, h101, h102, h103, h104, h105, h106, h107, h108, h109, h110, h111, h112, h113, h114, h115⟩ := allX _ z6
      obtain ⟨g4_0, g4_1, g4_2, g4_3, g4_4, g4_5, g4_6, g4_7⟩ : (v5.alloc (.cells #[.int .u64 r0, .int .u64 r1, .int .u64 r2, .int .u64 r3, .int .u64 r4, .int .u64 r5, .int .u64 r6, .int .u64 r7] 24)).cell? ⟨B4, 0, none⟩ = some (.int .u64 r0) ∧ (v5.alloc (.cells #[.int .u64 r0, .int .u64 r1, .int .u64 r2, .int .u64 r3, .int .u64 r4, .int .u64 r5, .int .u64 r6, .int .u64 r7] 24)).cell? ⟨B4, 1, none⟩ = some (.int .u64 r1) ∧ (v5.alloc (.cells #[.int .u64 r0, .int .u64 r1, .int .u64 r2, .int .u64 r3, .int .u64 r4, .int .u64 r5, .int .u64 r6, .int .u64 r7] 24)).cell? ⟨B4, 2, none⟩ = some (.int .u64 r2) ∧ (v5.alloc (.cells #[.int .u64 r0, .int .u64 r1, .int .u64 r2, .int .u64 r3, .int .u64 r4, .int .u64 r5, .int .u64 r6, .int .u64 r7] 24)).cell? ⟨B4, 3, none⟩ = some (.int .u64 r3) ∧ (v5.alloc (.cells #[.int .u64 r0, .int .u64 r1, .int .u64 r2, .int .u64 r3, .int .u64 r4, .int .u64 r5, .int .u64 r6, .int .u64 r7] 24)).cell? ⟨B4, 4, none⟩ = some (.int .u64 r4) ∧ (v5.alloc (.cells #[.int .u64 r0, .int .u64 r1, .int .u64 r2, .int .u64 r3, .int .u64 r4, .int .u64 r5, .int .u64 r6, .int .u64 r7] 24)).cell? ⟨B4, 5, none⟩ = some (.int .u64 r5) ∧ (v5.alloc (.cells #[.int .u64 r0, .int .u64 r1, .int .u64 r2, .int .u64 r3, .int .u64 r4, .int .u64 r5, .int .u64 r6, .int .u64 r7] 24)).cell? ⟨B4, 6, none⟩ = some (.int .u64 r6) ∧ (v5.alloc (.cells #[.int .u64 r0, .int .u64 r1, .int .u64 r2, .int .u64 r3, .int .u64 r4, .int .u64 r5, .int .u64 r6, .int .u64 r7] 24)).cell? ⟨B4, 7, none⟩ = some (.int .u64 r7) := ⟨(cellOf (j := 0) k4).trans rfl, (cellOf (j := 1) k4).trans rfl, (cellOf (j := 2) k4).trans rfl, (cellOf (j := 3) k4).trans rfl, (cellOf (j := 4) k4).trans rfl, (cellOf (j := 5) k4).trans rfl, (cellOf (j := 6) k4).trans rfl, (cellOf (j := 7) k4).trans rfl⟩
      obtain ⟨g5_0, g5_1, g5_2, g5_3, g5_4, g5_5, g5_6, g5_7⟩ : (v5.alloc (.cells #[.int .u64 r0, .int .u64 r1, .int .u64 r2, .int .u64 r3, .int .u64 r4, .int .u64 r5, .int .u64 r6, .int .u64 r7] 24)).cell? ⟨v5.heap.size, 0, none⟩ = some (.int .u64 r0) ∧ (v5.alloc (.cells #[.int .u64 r0, .int .u64 r1, .int .u64 r2, .int .u64 r3, .int .u64 r4, .int .u64 r5, .int .u64 r6, .int .u64 r7] 24)).cell? ⟨v5.heap.size, 1, none⟩ = some (.int .u64 r1) ∧ (v5.alloc (.cells #[.int .u64 r0, .int .u64 r1, .int .u64 r2, .int .u64 r3, .int .u64 r4, .int .u64 r5, .int .u64 r6, .int .u64 r7] 24)).cell? ⟨v5.heap.size, 2, none⟩ = some (.int .u64 r2) ∧ (v5.alloc (.cells #[.int .u64 r0, .int .u64 r1, .int .u64 r2, .int .u64 r3, .int .u64 r4, .int .u64 r5, .int .u64 r6, .int .u64 r7] 24)).cell? ⟨v5.heap.size, 3, none⟩ = some (.int .u64 r3) ∧ (v5.alloc (.cells #[.int .u64 r0, .int .u64 r1, .int .u64 r2, .int .u64 r3, .int .u64 r4, .int .u64 r5, .int .u64 r6, .int .u64 r7] 24)).cell? ⟨v5.heap.size, 4, none⟩ = some (.int .u64 r4) ∧ (v5.alloc (.cells #[.int .u64 r0, .int .u64 r1, .int .u64 r2, .int .u64 r3, .int .u64 r4, .int .u64 r5, .int .u64 r6, .int .u64 r7] 24)).cell? ⟨v5.heap.size, 5, none⟩ = some (.int .u64 r5) ∧ (v5.alloc (.cells #[.int .u64 r0, .int .u64 r1, .int .u64 r2, .int .u64 r3, .int .u64 r4, .int .u64 r5, .int .u64 r6, .int .u64 r7] 24)).cell? ⟨v5.heap.size, 6, none⟩ = some (.int .u64 r6) ∧ (v5.alloc (.cells #[.int .u64 r0, .int .u64 r1, .int .u64 r2, .int .u64 r3, .int .u64 r4, .int .u64 r5, .int .u64 r6, .int .u64 r7] 24)).cell? ⟨v5.heap.size, 7, none⟩ = some (.int .u64 r7) := ⟨(cellOf (j := 0) k5).trans rfl, (cellOf (j := 1) k5).trans rfl, (cellOf (j := 2) k5).trans rfl, (cellOf (j := 3) k5).trans rfl, (cellOf (j := 4) k5).trans rfl, (cellOf (j := 5) k5).trans rfl, (cellOf (j := 6) k5).trans rfl, (cellOf (j := 7) k5).trans rfl⟩
      clear k4 k5
      have hBe : Below w7.heap.size w7 (v5.alloc (.cells #[.int .u64 r0, .int .u64 r1, .int .u64 r2, .int .u64 r3, .int .u64 r4, .int .u64 r5, .int .u64 r6, .int .u64 r7] 24)) := hBa.trans (z6.mono hBa.size)
      clear allX kx hBa z0 z1 z2 z3 z4 z5 z6 h100 h101 h102 h103 h104 h105 h106 h107 h108 h109 h110 h111 h112 h113 h114 h115
      go_wp2
      go_roundw
      case rel => exact ⟨k + 1, rfl, by omega, hBe⟩
      case measure => simp [intOf]; omega
    · obtain rfl : k = 6 := by omega
      go_wp2
      exact hB
end Go.Proofs.Ytedhjlkidcojhaa
