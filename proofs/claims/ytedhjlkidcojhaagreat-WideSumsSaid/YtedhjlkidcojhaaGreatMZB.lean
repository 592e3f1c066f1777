/-
  The loop of the law WideSums.
-/
import Derived.Test.YtedhjlkidcojhaaGreatMZA
set_option linter.all false
namespace Go.Proofs.YtedhjlkidcojhaaGreat
open Go Go.Rx Go.RowKit Go.Big
attribute [local instance] noAv
/-- The cells of a pair in a row of six. -/
theorem pair_cells6 {U : World} {base g cap : Nat} {qs : List (Int × Int)} {k : Nat} {x y : Int} {x0 x1 x2 x3 x4 x5 x6 x7 y0 y1 y2 y3 y4 y5 y6 y7 : Int} (hown : U.ownsRow base 35 16 (.slice (some ⟨g, 0, none⟩) 6 cap) 6 (qs.flatMap cellsP)) (hl : qs.length = 6) (hk : k < 6) (hxy : qs.getD k (0, 0) = (x, y))
    (hx : W x = .agg #[.int .u64 x0, .int .u64 x1, .int .u64 x2, .int .u64 x3, .int .u64 x4, .int .u64 x5, .int .u64 x6, .int .u64 x7]) (hy : W y = .agg #[.int .u64 y0, .int .u64 y1, .int .u64 y2, .int .u64 y3, .int .u64 y4, .int .u64 y5, .int .u64 y6, .int .u64 y7]) : U.cell? ⟨g, k * 16, none⟩ = some (.int .u64 x0) ∧ U.cell? ⟨g, k * 16 + 1, none⟩ = some (.int .u64 x1) ∧ U.cell? ⟨g, k * 16 + 2, none⟩ = some (.int .u64 x2) ∧ U.cell? ⟨g, k * 16 + 3, none⟩ = some (.int .u64 x3) ∧ U.cell? ⟨g, k * 16 + 4, none⟩ = some (.int .u64 x4) ∧ U.cell? ⟨g, k * 16 + 5, none⟩ = some (.int .u64 x5) ∧ U.cell? ⟨g, k * 16 + 6, none⟩ = some (.int .u64 x6) ∧ U.cell? ⟨g, k * 16 + 7, none⟩ = some (.int .u64 x7) ∧ U.cell? ⟨g, k * 16 + 8, none⟩ = some (.int .u64 y0) ∧ U.cell? ⟨g, k * 16 + 9, none⟩ = some (.int .u64 y1) ∧ U.cell? ⟨g, k * 16 + 10, none⟩ = some (.int .u64 y2) ∧ U.cell? ⟨g, k * 16 + 11, none⟩ = some (.int .u64 y3) ∧ U.cell? ⟨g, k * 16 + 12, none⟩ = some (.int .u64 y4) ∧ U.cell? ⟨g, k * 16 + 13, none⟩ = some (.int .u64 y5) ∧ U.cell? ⟨g, k * 16 + 14, none⟩ = some (.int .u64 y6) ∧ U.cell? ⟨g, k * 16 + 15, none⟩ = some (.int .u64 y7) := by
  have hc : ∀ i, i < 16 → U.cell? ⟨g, k * 16 + i, none⟩ = (cellsP (x, y))[i]? := fun i hi => by
    rw [hown.cellAt _ (by omega), flat_get qs k i (by omega) hi, hxy]
  have e : cellsP (x, y) = [.int .u64 x0, .int .u64 x1, .int .u64 x2, .int .u64 x3, .int .u64 x4, .int .u64 x5, .int .u64 x6, .int .u64 x7, .int .u64 y0, .int .u64 y1, .int .u64 y2, .int .u64 y3, .int .u64 y4, .int .u64 y5, .int .u64 y6, .int .u64 y7] := by unfold cellsP; rw [W8_of hx, W8_of hy]; rfl
  rw [e] at hc
  exact ⟨(hc 0 (by decide)).trans rfl, (hc 1 (by decide)).trans rfl, (hc 2 (by decide)).trans rfl, (hc 3 (by decide)).trans rfl, (hc 4 (by decide)).trans rfl, (hc 5 (by decide)).trans rfl, (hc 6 (by decide)).trans rfl, (hc 7 (by decide)).trans rfl, (hc 8 (by decide)).trans rfl, (hc 9 (by decide)).trans rfl, (hc 10 (by decide)).trans rfl, (hc 11 (by decide)).trans rfl, (hc 12 (by decide)).trans rfl, (hc 13 (by decide)).trans rfl, (hc 14 (by decide)).trans rfl, (hc 15 (by decide)).trans rfl⟩
theorem stepB {W W1 : World} {B : Nat} {o : Obj} (k : W.heap[B]? = some o) (hb : Below W.heap.size W W1) (o' : Obj) : (W1.alloc o').heap[B]? = some o := by
  have hlt := (Array.getElem?_eq_some_iff.1 k).1
  have h1 := (hb.block B hlt).trans k
  exact (Below.heap_alloc W1 o' B (Array.getElem?_eq_some_iff.1 h1).1).trans h1
noncomputable def sumsL : Code := ((Tryz.f4.body.bind findL).getD .skip)
set_option maxHeartbeats 8000000 in
set_option maxRecDepth 100000 in
theorem sums_loop {w7 : World} {base g cap : Nat} {qs : List (Int × Int)} (hq : ∀ p ∈ qs, fit p.1 ∧ fit p.2) (hl : qs.length = 6) (hown : w7.ownsRow base 35 16 (.slice (some ⟨g, 0, none⟩) 6 cap) 6 (qs.flatMap cellsP))
    (c0 c1 c3 c25 c26 c27 u2 u4 u5 u6 u7 u8 u9 u10 u11 u12 u13 u14 u15 u16 u17 u18 u19 u20 u21 u22 u23 u24 u31 u32 u33 u34 u35 u36 u37 u38 u39 u40 u41 u42 u43 u44 u45 u46 u47 u48 u49 u50 u51 u52 u53 u54 u55 u56 u57 u58 u59 u60 u61 u62 u63 u64 u65 u66 u67 u68 u69 u70 u71 u72 u73 u74 u75 u76 u77 u78 u79 u80 u81 u82 u83 u84 u85 u86 u87 u88 u89 u90 u91 u92 u93 u94 u95 u96 u97 u98 u99 u100 u101 u102 u103 u104 u105 u106 u107 u108 u109 u110 u111 u112 u113 u114 u115 u116 u117 u118 u119 u120 u121 u122 u123 u124 u125 u126 u127 u128 u129 u130 u131 u132 u133 u134 u135 u136 u137 u138 u139 u140 u141 u142 u143 u144 u145 u146 u147 u148 u149 u150 u151 u152 u153 u154 : Value) (Q : Exit → Act → World → Prop)
    (hQ : ∀ (u2 u4 u5 u6 u7 u8 u9 u10 u11 u12 u13 u14 u15 u16 u17 u18 u19 u20 u21 u22 u23 u24 u31 u32 u33 u34 u35 u36 u37 u38 u39 u40 u41 u42 u43 u44 u45 u46 u47 u48 u49 u50 u51 u52 u53 u54 u55 u56 u57 u58 u59 u60 u61 u62 u63 u64 u65 u66 u67 u68 u69 u70 u71 u72 u73 u74 u75 u76 u77 u78 u79 u80 u81 u82 u83 u84 u85 u86 u87 u88 u89 u90 u91 u92 u93 u94 u95 u96 u97 u98 u99 u100 u101 u102 u103 u104 u105 u106 u107 u108 u109 u110 u111 u112 u113 u114 u115 u116 u117 u118 u119 u120 u121 u122 u123 u124 u125 u126 u127 u128 u129 u130 u131 u132 u133 u134 u135 u136 u137 u138 u139 u140 u141 u142 u143 u144 u145 u146 u147 u148 u149 u150 u151 u152 u153 u154 : Value) (W : World), Below w7.heap.size w7 W → Q (.exit 0) ⟨(List.toArray (c0 :: c1 :: u2 :: c3 :: u4 :: u5 :: u6 :: u7 :: u8 :: u9 :: u10 :: u11 :: u12 :: u13 :: u14 :: u15 :: u16 :: u17 :: u18 :: u19 :: u20 :: u21 :: u22 :: u23 :: u24 :: c25 :: c26 :: c27 :: (.slice (some ⟨g, 0, none⟩) 6 cap) :: (.int .i64 6) :: (.int .i64 6) :: u31 :: u32 :: u33 :: u34 :: u35 :: u36 :: u37 :: u38 :: u39 :: u40 :: u41 :: u42 :: u43 :: u44 :: u45 :: u46 :: u47 :: u48 :: u49 :: u50 :: u51 :: u52 :: u53 :: u54 :: u55 :: u56 :: u57 :: u58 :: u59 :: u60 :: u61 :: u62 :: u63 :: u64 :: u65 :: u66 :: u67 :: u68 :: u69 :: u70 :: u71 :: u72 :: u73 :: u74 :: u75 :: u76 :: u77 :: u78 :: u79 :: u80 :: u81 :: u82 :: u83 :: u84 :: u85 :: u86 :: u87 :: u88 :: u89 :: u90 :: u91 :: u92 :: u93 :: u94 :: u95 :: u96 :: u97 :: u98 :: u99 :: u100 :: u101 :: u102 :: u103 :: u104 :: u105 :: u106 :: u107 :: u108 :: u109 :: u110 :: u111 :: u112 :: u113 :: u114 :: u115 :: u116 :: u117 :: u118 :: u119 :: u120 :: u121 :: u122 :: u123 :: u124 :: u125 :: u126 :: u127 :: u128 :: u129 :: u130 :: u131 :: u132 :: u133 :: u134 :: u135 :: u136 :: u137 :: u138 :: u139 :: u140 :: u141 :: u142 :: u143 :: u144 :: u145 :: u146 :: u147 :: u148 :: u149 :: u150 :: u151 :: u152 :: u153 :: u154 :: [])), []⟩ W) :
    Code.wp Tryz.prog sumsL Q ⟨(List.toArray (c0 :: c1 :: u2 :: c3 :: u4 :: u5 :: u6 :: u7 :: u8 :: u9 :: u10 :: u11 :: u12 :: u13 :: u14 :: u15 :: u16 :: u17 :: u18 :: u19 :: u20 :: u21 :: u22 :: u23 :: u24 :: c25 :: c26 :: c27 :: (.slice (some ⟨g, 0, none⟩) 6 cap) :: (.int .i64 6) :: (.int .i64 0) :: u31 :: u32 :: u33 :: u34 :: u35 :: u36 :: u37 :: u38 :: u39 :: u40 :: u41 :: u42 :: u43 :: u44 :: u45 :: u46 :: u47 :: u48 :: u49 :: u50 :: u51 :: u52 :: u53 :: u54 :: u55 :: u56 :: u57 :: u58 :: u59 :: u60 :: u61 :: u62 :: u63 :: u64 :: u65 :: u66 :: u67 :: u68 :: u69 :: u70 :: u71 :: u72 :: u73 :: u74 :: u75 :: u76 :: u77 :: u78 :: u79 :: u80 :: u81 :: u82 :: u83 :: u84 :: u85 :: u86 :: u87 :: u88 :: u89 :: u90 :: u91 :: u92 :: u93 :: u94 :: u95 :: u96 :: u97 :: u98 :: u99 :: u100 :: u101 :: u102 :: u103 :: u104 :: u105 :: u106 :: u107 :: u108 :: u109 :: u110 :: u111 :: u112 :: u113 :: u114 :: u115 :: u116 :: u117 :: u118 :: u119 :: u120 :: u121 :: u122 :: u123 :: u124 :: u125 :: u126 :: u127 :: u128 :: u129 :: u130 :: u131 :: u132 :: u133 :: u134 :: u135 :: u136 :: u137 :: u138 :: u139 :: u140 :: u141 :: u142 :: u143 :: u144 :: u145 :: u146 :: u147 :: u148 :: u149 :: u150 :: u151 :: u152 :: u153 :: u154 :: [])), []⟩ w7 := by
  obtain ⟨g', cap', hg', -, hglt⟩ := hown.form (by decide)
  obtain ⟨rfl, rfl⟩ : g = g' ∧ cap = cap' := by injection hg' with h1 h2 h3; injection h1 with h1; injection h1 with h1; exact ⟨h1, h3⟩
  clear hg'
  conv => arg 2; whnf
  go_loopw [30] (fun i wr => ∃ k : Nat, i = .int .i64 k ∧ k ≤ 6 ∧ Below w7.heap.size w7 wr) (fun i _ => 6 - (intOf i).toNat)
  case atStart => exact ⟨0, rfl, by omega, Below.refl _ _⟩
  case round =>
    obtain ⟨k, rfl, hk, hB⟩ := hrel
    by_cases h7 : k < 6
    · obtain ⟨x, y, hxy⟩ : ∃ x y, qs.getD k (0, 0) = (x, y) := ⟨_, _, rfl⟩
      have hmem := hq _ (qs_mem (by rw [hl]; exact h7))
      rw [hxy] at hmem
      obtain ⟨hx, hy⟩ := hmem
      obtain ⟨x0, x1, x2, x3, x4, x5, x6, x7, -, -, hwx⟩ := words_of hx
      obtain ⟨y0, y1, y2, y3, y4, y5, y6, y7, -, -, hwy⟩ := words_of hy
      obtain ⟨h100, h101, h102, h103, h104, h105, h106, h107, h108, h109, h110, h111, h112, h113, h114, h115⟩ := pair_cells6 (own_of_block hown (fun b _ hb => hB.block b hb)) hl h7 hxy hwx hwy
      obtain ⟨rrp, ep, hrp, hsp⟩ := res_words (-x)
      obtain ⟨p0, p1, p2, p3, p4, p5, p6, p7, -, -, hwp⟩ := words_of hrp
      obtain ⟨rrq, eq, hrq, hsq⟩ := res_words ((x.natAbs : Int))
      obtain ⟨q0, q1, q2, q3, q4, q5, q6, q7, -, -, hwq⟩ := words_of hrq
      obtain ⟨rrr, er, hrr, hsr⟩ := res_words (x + y)
      obtain ⟨r0, r1, r2, r3, r4, r5, r6, r7, -, -, hwr⟩ := words_of hrr
      obtain ⟨rrs, es, hrs, hss⟩ := res_words (x - y)
      obtain ⟨s0, s1, s2, s3, s4, s5, s6, s7, -, -, hws⟩ := words_of hrs
      obtain ⟨rrt, et, hrt, hst⟩ := res_words (x * y)
      obtain ⟨t0, t1, t2, t3, t4, t5, t6, t7, -, -, hwt⟩ := words_of hrt
      have H7 : ∀ W, Calls Tryz.prog 16 #[.agg #[.int .u64 x0, .int .u64 x1, .int .u64 x2, .int .u64 x3, .int .u64 x4, .int .u64 x5, .int .u64 x6, .int .u64 x7]] W (Gets (fun _ r => r = .tuple #[.agg #[.int .u64 p0, .int .u64 p1, .int .u64 p2, .int .u64 p3, .int .u64 p4, .int .u64 p5, .int .u64 p6, .int .u64 p7], .int .i64 ep]) W) := fun W => by
        have := gives_gets (f_Neg x hx) W
        rw [hsp, hwp, hwx] at this
        exact this
      have H8 : ∀ W, Calls Tryz.prog 17 #[.agg #[.int .u64 x0, .int .u64 x1, .int .u64 x2, .int .u64 x3, .int .u64 x4, .int .u64 x5, .int .u64 x6, .int .u64 x7]] W (Gets (fun _ r => r = .tuple #[.agg #[.int .u64 p0, .int .u64 p1, .int .u64 p2, .int .u64 p3, .int .u64 p4, .int .u64 p5, .int .u64 p6, .int .u64 p7], .int .i64 ep]) W) := fun W => by
        have := refNeg_c (w := W) hx
        rw [hsp, hwp, hwx] at this
        exact this
      have H9 : ∀ W, Calls Tryz.prog 18 #[.agg #[.int .u64 x0, .int .u64 x1, .int .u64 x2, .int .u64 x3, .int .u64 x4, .int .u64 x5, .int .u64 x6, .int .u64 x7]] W (Gets (fun _ r => r = .tuple #[.agg #[.int .u64 q0, .int .u64 q1, .int .u64 q2, .int .u64 q3, .int .u64 q4, .int .u64 q5, .int .u64 q6, .int .u64 q7], .int .i64 eq]) W) := fun W => by
        have := gives_gets (f_Abs x hx) W
        rw [hsq, hwq, hwx] at this
        exact this
      have H10 : ∀ W, Calls Tryz.prog 19 #[.agg #[.int .u64 x0, .int .u64 x1, .int .u64 x2, .int .u64 x3, .int .u64 x4, .int .u64 x5, .int .u64 x6, .int .u64 x7]] W (Gets (fun _ r => r = .tuple #[.agg #[.int .u64 q0, .int .u64 q1, .int .u64 q2, .int .u64 q3, .int .u64 q4, .int .u64 q5, .int .u64 q6, .int .u64 q7], .int .i64 eq]) W) := fun W => by
        have := refAbs_c (w := W) hx
        rw [hsq, hwq, hwx] at this
        exact this
      have H11 : ∀ W, Calls Tryz.prog 20 #[.agg #[.int .u64 x0, .int .u64 x1, .int .u64 x2, .int .u64 x3, .int .u64 x4, .int .u64 x5, .int .u64 x6, .int .u64 x7], .agg #[.int .u64 y0, .int .u64 y1, .int .u64 y2, .int .u64 y3, .int .u64 y4, .int .u64 y5, .int .u64 y6, .int .u64 y7]] W (Gets (fun _ r => r = .tuple #[.agg #[.int .u64 r0, .int .u64 r1, .int .u64 r2, .int .u64 r3, .int .u64 r4, .int .u64 r5, .int .u64 r6, .int .u64 r7], .int .i64 er]) W) := fun W => by
        have := gives_gets (f_Add x y hx hy) W
        rw [hsr, hwr, hwx, hwy] at this
        exact this
      have H12 : ∀ W, Calls Tryz.prog 21 #[.agg #[.int .u64 x0, .int .u64 x1, .int .u64 x2, .int .u64 x3, .int .u64 x4, .int .u64 x5, .int .u64 x6, .int .u64 x7], .agg #[.int .u64 y0, .int .u64 y1, .int .u64 y2, .int .u64 y3, .int .u64 y4, .int .u64 y5, .int .u64 y6, .int .u64 y7]] W (Gets (fun _ r => r = .tuple #[.agg #[.int .u64 r0, .int .u64 r1, .int .u64 r2, .int .u64 r3, .int .u64 r4, .int .u64 r5, .int .u64 r6, .int .u64 r7], .int .i64 er]) W) := fun W => by
        have := refAdd_c (w := W) hx hy
        rw [hsr, hwr, hwx, hwy] at this
        exact this
      have H13 : ∀ W, Calls Tryz.prog 22 #[.agg #[.int .u64 x0, .int .u64 x1, .int .u64 x2, .int .u64 x3, .int .u64 x4, .int .u64 x5, .int .u64 x6, .int .u64 x7], .agg #[.int .u64 y0, .int .u64 y1, .int .u64 y2, .int .u64 y3, .int .u64 y4, .int .u64 y5, .int .u64 y6, .int .u64 y7]] W (Gets (fun _ r => r = .tuple #[.agg #[.int .u64 s0, .int .u64 s1, .int .u64 s2, .int .u64 s3, .int .u64 s4, .int .u64 s5, .int .u64 s6, .int .u64 s7], .int .i64 es]) W) := fun W => by
        have := gives_gets (f_Sub x y hx hy) W
        rw [hss, hws, hwx, hwy] at this
        exact this
      have H14 : ∀ W, Calls Tryz.prog 23 #[.agg #[.int .u64 x0, .int .u64 x1, .int .u64 x2, .int .u64 x3, .int .u64 x4, .int .u64 x5, .int .u64 x6, .int .u64 x7], .agg #[.int .u64 y0, .int .u64 y1, .int .u64 y2, .int .u64 y3, .int .u64 y4, .int .u64 y5, .int .u64 y6, .int .u64 y7]] W (Gets (fun _ r => r = .tuple #[.agg #[.int .u64 s0, .int .u64 s1, .int .u64 s2, .int .u64 s3, .int .u64 s4, .int .u64 s5, .int .u64 s6, .int .u64 s7], .int .i64 es]) W) := fun W => by
        have := refSub_c (w := W) hx hy
        rw [hss, hws, hwx, hwy] at this
        exact this
      have H15 : ∀ W, Calls Tryz.prog 24 #[.agg #[.int .u64 x0, .int .u64 x1, .int .u64 x2, .int .u64 x3, .int .u64 x4, .int .u64 x5, .int .u64 x6, .int .u64 x7], .agg #[.int .u64 y0, .int .u64 y1, .int .u64 y2, .int .u64 y3, .int .u64 y4, .int .u64 y5, .int .u64 y6, .int .u64 y7]] W (Gets (fun _ r => r = .tuple #[.agg #[.int .u64 t0, .int .u64 t1, .int .u64 t2, .int .u64 t3, .int .u64 t4, .int .u64 t5, .int .u64 t6, .int .u64 t7], .int .i64 et]) W) := fun W => by
        have := gives_gets (f_MulG x y hx hy) W
        rw [hst, hwt, hwx, hwy] at this
        exact this
      have H16 : ∀ W, Calls Tryz.prog 25 #[.agg #[.int .u64 x0, .int .u64 x1, .int .u64 x2, .int .u64 x3, .int .u64 x4, .int .u64 x5, .int .u64 x6, .int .u64 x7], .agg #[.int .u64 y0, .int .u64 y1, .int .u64 y2, .int .u64 y3, .int .u64 y4, .int .u64 y5, .int .u64 y6, .int .u64 y7]] W (Gets (fun _ r => r = .tuple #[.agg #[.int .u64 t0, .int .u64 t1, .int .u64 t2, .int .u64 t3, .int .u64 t4, .int .u64 t5, .int .u64 t6, .int .u64 t7], .int .i64 et]) W) := fun W => by
        have := refMul_c (w := W) hx hy
        rw [hst, hwt, hwx, hwy] at this
        exact this
      have Ep := eq8_same p0 p1 p2 p3 p4 p5 p6 p7
      have Eq := eq8_same q0 q1 q2 q3 q4 q5 q6 q7
      have Er := eq8_same r0 r1 r2 r3 r4 r5 r6 r7
      have Es := eq8_same s0 s1 s2 s3 s4 s5 s6 s7
      have Et := eq8_same t0 t1 t2 t3 t4 t5 t6 t7
      clear hwx hwy hq hown hxy hrp hsp hwp hrq hsq hwq hrr hsr hwr hrs hss hws hrt hst hwt
      go_wp2_with fail
      have kx := (MapKept.heap_alloc wr (.cells #[.int .u64 x0, .int .u64 x1, .int .u64 x2, .int .u64 x3, .int .u64 x4, .int .u64 x5, .int .u64 x6, .int .u64 x7, .int .u64 y0, .int .u64 y1, .int .u64 y2, .int .u64 y3, .int .u64 y4, .int .u64 y5, .int .u64 y6, .int .u64 y7] 35)).1
      have hBa : Below w7.heap.size w7 (wr.alloc (.cells #[.int .u64 x0, .int .u64 x1, .int .u64 x2, .int .u64 x3, .int .u64 x4, .int .u64 x5, .int .u64 x6, .int .u64 x7, .int .u64 y0, .int .u64 y1, .int .u64 y2, .int .u64 y3, .int .u64 y4, .int .u64 y5, .int .u64 y6, .int .u64 y7] 35)) := hB.alloc hB.size _
      clear hB h100 h101 h102 h103 h104 h105 h106 h107 h108 h109 h110 h111 h112 h113 h114 h115
      generalize wr.alloc (.cells #[.int .u64 x0, .int .u64 x1, .int .u64 x2, .int .u64 x3, .int .u64 x4, .int .u64 x5, .int .u64 x6, .int .u64 x7, .int .u64 y0, .int .u64 y1, .int .u64 y2, .int .u64 y3, .int .u64 y4, .int .u64 y5, .int .u64 y6, .int .u64 y7] 35) = wa at *
      generalize wr.heap.size = X at *
      have hXlt : X < wa.heap.size := (Array.getElem?_eq_some_iff.1 kx).1
      have allX : ∀ U, Below wa.heap.size wa U → U.cell? ⟨X, 0, none⟩ = some (.int .u64 x0) ∧ U.cell? ⟨X, 1, none⟩ = some (.int .u64 x1) ∧ U.cell? ⟨X, 2, none⟩ = some (.int .u64 x2) ∧ U.cell? ⟨X, 3, none⟩ = some (.int .u64 x3) ∧ U.cell? ⟨X, 4, none⟩ = some (.int .u64 x4) ∧ U.cell? ⟨X, 5, none⟩ = some (.int .u64 x5) ∧ U.cell? ⟨X, 6, none⟩ = some (.int .u64 x6) ∧ U.cell? ⟨X, 7, none⟩ = some (.int .u64 x7) ∧ U.cell? ⟨X, 8, none⟩ = some (.int .u64 y0) ∧ U.cell? ⟨X, 9, none⟩ = some (.int .u64 y1) ∧ U.cell? ⟨X, 10, none⟩ = some (.int .u64 y2) ∧ U.cell? ⟨X, 11, none⟩ = some (.int .u64 y3) ∧ U.cell? ⟨X, 12, none⟩ = some (.int .u64 y4) ∧ U.cell? ⟨X, 13, none⟩ = some (.int .u64 y5) ∧ U.cell? ⟨X, 14, none⟩ = some (.int .u64 y6) ∧ U.cell? ⟨X, 15, none⟩ = some (.int .u64 y7) := fun U hU => by
        have k1 := (hU.block X hXlt).trans kx
        exact ⟨(cellOf (j := 0) k1).trans rfl, (cellOf (j := 1) k1).trans rfl, (cellOf (j := 2) k1).trans rfl, (cellOf (j := 3) k1).trans rfl, (cellOf (j := 4) k1).trans rfl, (cellOf (j := 5) k1).trans rfl, (cellOf (j := 6) k1).trans rfl, (cellOf (j := 7) k1).trans rfl, (cellOf (j := 8) k1).trans rfl, (cellOf (j := 9) k1).trans rfl, (cellOf (j := 10) k1).trans rfl, (cellOf (j := 11) k1).trans rfl, (cellOf (j := 12) k1).trans rfl, (cellOf (j := 13) k1).trans rfl, (cellOf (j := 14) k1).trans rfl, (cellOf (j := 15) k1).trans rfl⟩
      have z0 : Below wa.heap.size wa wa := Below.refl _ _
      with_reducible refine (H7 _).mono ?_
      rintro e v0 ⟨r, rfl, rfl, hb0⟩
      have zz := next0 z0 hb0
      have z1 : Below wa.heap.size wa (v0.alloc (.cells #[.int .u64 p0, .int .u64 p1, .int .u64 p2, .int .u64 p3, .int .u64 p4, .int .u64 p5, .int .u64 p6, .int .u64 p7] 24)) := zz.alloc zz.size _
      have k0 := (MapKept.heap_alloc v0 (.cells #[.int .u64 p0, .int .u64 p1, .int .u64 p2, .int .u64 p3, .int .u64 p4, .int .u64 p5, .int .u64 p6, .int .u64 p7] 24)).1
      obtain ⟨h100, h101, h102, h103, h104, h105, h106, h107, h108, h109, h110, h111, h112, h113, h114, h115⟩ := allX _ z1
      clear hb0 zz H7
      go_wp2_with fail
      generalize v0.alloc (.cells #[.int .u64 p0, .int .u64 p1, .int .u64 p2, .int .u64 p3, .int .u64 p4, .int .u64 p5, .int .u64 p6, .int .u64 p7] 24) = w10 at *
      generalize v0.heap.size = B0 at *
      clear h100 h101 h102 h103 h104 h105 h106 h107 h108 h109 h110 h111 h112 h113 h114 h115
      with_reducible refine (H8 _).mono ?_
      rintro e v1 ⟨r, rfl, rfl, hb1⟩
      have zz := next0 z1 hb1
      have z2 : Below wa.heap.size wa (v1.alloc (.cells #[.int .u64 p0, .int .u64 p1, .int .u64 p2, .int .u64 p3, .int .u64 p4, .int .u64 p5, .int .u64 p6, .int .u64 p7] 24)) := zz.alloc zz.size _
      have k0 := stepB k0 hb1 (.cells #[.int .u64 p0, .int .u64 p1, .int .u64 p2, .int .u64 p3, .int .u64 p4, .int .u64 p5, .int .u64 p6, .int .u64 p7] 24)
      have k1 := (MapKept.heap_alloc v1 (.cells #[.int .u64 p0, .int .u64 p1, .int .u64 p2, .int .u64 p3, .int .u64 p4, .int .u64 p5, .int .u64 p6, .int .u64 p7] 24)).1
      obtain ⟨h100, h101, h102, h103, h104, h105, h106, h107, h108, h109, h110, h111, h112, h113, h114, h115⟩ := allX _ z2
      clear hb1 zz H8
      go_wp2_with fail
      generalize v1.alloc (.cells #[.int .u64 p0, .int .u64 p1, .int .u64 p2, .int .u64 p3, .int .u64 p4, .int .u64 p5, .int .u64 p6, .int .u64 p7] 24) = w11 at *
      generalize v1.heap.size = B1 at *
      clear h100 h101 h102 h103 h104 h105 h106 h107 h108 h109 h110 h111 h112 h113 h114 h115
      with_reducible refine (H9 _).mono ?_
      rintro e v2 ⟨r, rfl, rfl, hb2⟩
      have zz := next0 z2 hb2
      have z3 : Below wa.heap.size wa (v2.alloc (.cells #[.int .u64 q0, .int .u64 q1, .int .u64 q2, .int .u64 q3, .int .u64 q4, .int .u64 q5, .int .u64 q6, .int .u64 q7] 24)) := zz.alloc zz.size _
      have k0 := stepB k0 hb2 (.cells #[.int .u64 q0, .int .u64 q1, .int .u64 q2, .int .u64 q3, .int .u64 q4, .int .u64 q5, .int .u64 q6, .int .u64 q7] 24)
      have k1 := stepB k1 hb2 (.cells #[.int .u64 q0, .int .u64 q1, .int .u64 q2, .int .u64 q3, .int .u64 q4, .int .u64 q5, .int .u64 q6, .int .u64 q7] 24)
      have k2 := (MapKept.heap_alloc v2 (.cells #[.int .u64 q0, .int .u64 q1, .int .u64 q2, .int .u64 q3, .int .u64 q4, .int .u64 q5, .int .u64 q6, .int .u64 q7] 24)).1
      obtain ⟨h100, h101, h102, h103, h104, h105, h106, h107, h108, h109, h110, h111, h112, h113, h114, h115⟩ := allX _ z3
      clear hb2 zz H9
      go_wp2_with fail
      generalize v2.alloc (.cells #[.int .u64 q0, .int .u64 q1, .int .u64 q2, .int .u64 q3, .int .u64 q4, .int .u64 q5, .int .u64 q6, .int .u64 q7] 24) = w12 at *
      generalize v2.heap.size = B2 at *
      clear h100 h101 h102 h103 h104 h105 h106 h107 h108 h109 h110 h111 h112 h113 h114 h115
      with_reducible refine (H10 _).mono ?_
      rintro e v3 ⟨r, rfl, rfl, hb3⟩
      have zz := next0 z3 hb3
      have z4 : Below wa.heap.size wa (v3.alloc (.cells #[.int .u64 q0, .int .u64 q1, .int .u64 q2, .int .u64 q3, .int .u64 q4, .int .u64 q5, .int .u64 q6, .int .u64 q7] 24)) := zz.alloc zz.size _
      have k0 := stepB k0 hb3 (.cells #[.int .u64 q0, .int .u64 q1, .int .u64 q2, .int .u64 q3, .int .u64 q4, .int .u64 q5, .int .u64 q6, .int .u64 q7] 24)
      have k1 := stepB k1 hb3 (.cells #[.int .u64 q0, .int .u64 q1, .int .u64 q2, .int .u64 q3, .int .u64 q4, .int .u64 q5, .int .u64 q6, .int .u64 q7] 24)
      have k2 := stepB k2 hb3 (.cells #[.int .u64 q0, .int .u64 q1, .int .u64 q2, .int .u64 q3, .int .u64 q4, .int .u64 q5, .int .u64 q6, .int .u64 q7] 24)
      have k3 := (MapKept.heap_alloc v3 (.cells #[.int .u64 q0, .int .u64 q1, .int .u64 q2, .int .u64 q3, .int .u64 q4, .int .u64 q5, .int .u64 q6, .int .u64 q7] 24)).1
      obtain ⟨h100, h101, h102, h103, h104, h105, h106, h107, h108, h109, h110, h111, h112, h113, h114, h115⟩ := allX _ z4
      clear hb3 zz H10
      go_wp2_with fail
      generalize v3.alloc (.cells #[.int .u64 q0, .int .u64 q1, .int .u64 q2, .int .u64 q3, .int .u64 q4, .int .u64 q5, .int .u64 q6, .int .u64 q7] 24) = w13 at *
      generalize v3.heap.size = B3 at *
      clear h100 h101 h102 h103 h104 h105 h106 h107 h108 h109 h110 h111 h112 h113 h114 h115
      with_reducible refine (H11 _).mono ?_
      rintro e v4 ⟨r, rfl, rfl, hb4⟩
      have zz := next0 z4 hb4
      have z5 : Below wa.heap.size wa (v4.alloc (.cells #[.int .u64 r0, .int .u64 r1, .int .u64 r2, .int .u64 r3, .int .u64 r4, .int .u64 r5, .int .u64 r6, .int .u64 r7] 24)) := zz.alloc zz.size _
      have k0 := stepB k0 hb4 (.cells #[.int .u64 r0, .int .u64 r1, .int .u64 r2, .int .u64 r3, .int .u64 r4, .int .u64 r5, .int .u64 r6, .int .u64 r7] 24)
      have k1 := stepB k1 hb4 (.cells #[.int .u64 r0, .int .u64 r1, .int .u64 r2, .int .u64 r3, .int .u64 r4, .int .u64 r5, .int .u64 r6, .int .u64 r7] 24)
      have k2 := stepB k2 hb4 (.cells #[.int .u64 r0, .int .u64 r1, .int .u64 r2, .int .u64 r3, .int .u64 r4, .int .u64 r5, .int .u64 r6, .int .u64 r7] 24)
      have k3 := stepB k3 hb4 (.cells #[.int .u64 r0, .int .u64 r1, .int .u64 r2, .int .u64 r3, .int .u64 r4, .int .u64 r5, .int .u64 r6, .int .u64 r7] 24)
      have k4 := (MapKept.heap_alloc v4 (.cells #[.int .u64 r0, .int .u64 r1, .int .u64 r2, .int .u64 r3, .int .u64 r4, .int .u64 r5, .int .u64 r6, .int .u64 r7] 24)).1
      obtain ⟨h100, h101, h102, h103, h104, h105, h106, h107, h108, h109, h110, h111, h112, h113, h114, h115⟩ := allX _ z5
      clear hb4 zz H11
      go_wp2_with fail
      generalize v4.alloc (.cells #[.int .u64 r0, .int .u64 r1, .int .u64 r2, .int .u64 r3, .int .u64 r4, .int .u64 r5, .int .u64 r6, .int .u64 r7] 24) = w14 at *
      generalize v4.heap.size = B4 at *
      clear h100 h101 h102 h103 h104 h105 h106 h107 h108 h109 h110 h111 h112 h113 h114 h115
      with_reducible refine (H12 _).mono ?_
      rintro e v5 ⟨r, rfl, rfl, hb5⟩
      have zz := next0 z5 hb5
      have z6 : Below wa.heap.size wa (v5.alloc (.cells #[.int .u64 r0, .int .u64 r1, .int .u64 r2, .int .u64 r3, .int .u64 r4, .int .u64 r5, .int .u64 r6, .int .u64 r7] 24)) := zz.alloc zz.size _
      have k0 := stepB k0 hb5 (.cells #[.int .u64 r0, .int .u64 r1, .int .u64 r2, .int .u64 r3, .int .u64 r4, .int .u64 r5, .int .u64 r6, .int .u64 r7] 24)
      have k1 := stepB k1 hb5 (.cells #[.int .u64 r0, .int .u64 r1, .int .u64 r2, .int .u64 r3, .int .u64 r4, .int .u64 r5, .int .u64 r6, .int .u64 r7] 24)
      have k2 := stepB k2 hb5 (.cells #[.int .u64 r0, .int .u64 r1, .int .u64 r2, .int .u64 r3, .int .u64 r4, .int .u64 r5, .int .u64 r6, .int .u64 r7] 24)
      have k3 := stepB k3 hb5 (.cells #[.int .u64 r0, .int .u64 r1, .int .u64 r2, .int .u64 r3, .int .u64 r4, .int .u64 r5, .int .u64 r6, .int .u64 r7] 24)
      have k4 := stepB k4 hb5 (.cells #[.int .u64 r0, .int .u64 r1, .int .u64 r2, .int .u64 r3, .int .u64 r4, .int .u64 r5, .int .u64 r6, .int .u64 r7] 24)
      have k5 := (MapKept.heap_alloc v5 (.cells #[.int .u64 r0, .int .u64 r1, .int .u64 r2, .int .u64 r3, .int .u64 r4, .int .u64 r5, .int .u64 r6, .int .u64 r7] 24)).1
      obtain ⟨h100, h101, h102, h103, h104, h105, h106, h107, h108, h109, h110, h111, h112, h113, h114, h115⟩ := allX _ z6
      clear hb5 zz H12
      go_wp2_with fail
      generalize v5.alloc (.cells #[.int .u64 r0, .int .u64 r1, .int .u64 r2, .int .u64 r3, .int .u64 r4, .int .u64 r5, .int .u64 r6, .int .u64 r7] 24) = w15 at *
      generalize v5.heap.size = B5 at *
      clear h100 h101 h102 h103 h104 h105 h106 h107 h108 h109 h110 h111 h112 h113 h114 h115
      with_reducible refine (H13 _).mono ?_
      rintro e v6 ⟨r, rfl, rfl, hb6⟩
      have zz := next0 z6 hb6
      have z7 : Below wa.heap.size wa (v6.alloc (.cells #[.int .u64 s0, .int .u64 s1, .int .u64 s2, .int .u64 s3, .int .u64 s4, .int .u64 s5, .int .u64 s6, .int .u64 s7] 24)) := zz.alloc zz.size _
      have k0 := stepB k0 hb6 (.cells #[.int .u64 s0, .int .u64 s1, .int .u64 s2, .int .u64 s3, .int .u64 s4, .int .u64 s5, .int .u64 s6, .int .u64 s7] 24)
      have k1 := stepB k1 hb6 (.cells #[.int .u64 s0, .int .u64 s1, .int .u64 s2, .int .u64 s3, .int .u64 s4, .int .u64 s5, .int .u64 s6, .int .u64 s7] 24)
      have k2 := stepB k2 hb6 (.cells #[.int .u64 s0, .int .u64 s1, .int .u64 s2, .int .u64 s3, .int .u64 s4, .int .u64 s5, .int .u64 s6, .int .u64 s7] 24)
      have k3 := stepB k3 hb6 (.cells #[.int .u64 s0, .int .u64 s1, .int .u64 s2, .int .u64 s3, .int .u64 s4, .int .u64 s5, .int .u64 s6, .int .u64 s7] 24)
      have k4 := stepB k4 hb6 (.cells #[.int .u64 s0, .int .u64 s1, .int .u64 s2, .int .u64 s3, .int .u64 s4, .int .u64 s5, .int .u64 s6, .int .u64 s7] 24)
      have k5 := stepB k5 hb6 (.cells #[.int .u64 s0, .int .u64 s1, .int .u64 s2, .int .u64 s3, .int .u64 s4, .int .u64 s5, .int .u64 s6, .int .u64 s7] 24)
      have k6 := (MapKept.heap_alloc v6 (.cells #[.int .u64 s0, .int .u64 s1, .int .u64 s2, .int .u64 s3, .int .u64 s4, .int .u64 s5, .int .u64 s6, .int .u64 s7] 24)).1
      obtain ⟨h100, h101, h102, h103, h104, h105, h106, h107, h108, h109, h110, h111, h112, h113, h114, h115⟩ := allX _ z7
      clear hb6 zz H13
      go_wp2_with fail
      generalize v6.alloc (.cells #[.int .u64 s0, .int .u64 s1, .int .u64 s2, .int .u64 s3, .int .u64 s4, .int .u64 s5, .int .u64 s6, .int .u64 s7] 24) = w16 at *
      generalize v6.heap.size = B6 at *
      clear h100 h101 h102 h103 h104 h105 h106 h107 h108 h109 h110 h111 h112 h113 h114 h115
      with_reducible refine (H14 _).mono ?_
      rintro e v7 ⟨r, rfl, rfl, hb7⟩
      have zz := next0 z7 hb7
      have z8 : Below wa.heap.size wa (v7.alloc (.cells #[.int .u64 s0, .int .u64 s1, .int .u64 s2, .int .u64 s3, .int .u64 s4, .int .u64 s5, .int .u64 s6, .int .u64 s7] 24)) := zz.alloc zz.size _
      have k0 := stepB k0 hb7 (.cells #[.int .u64 s0, .int .u64 s1, .int .u64 s2, .int .u64 s3, .int .u64 s4, .int .u64 s5, .int .u64 s6, .int .u64 s7] 24)
      have k1 := stepB k1 hb7 (.cells #[.int .u64 s0, .int .u64 s1, .int .u64 s2, .int .u64 s3, .int .u64 s4, .int .u64 s5, .int .u64 s6, .int .u64 s7] 24)
      have k2 := stepB k2 hb7 (.cells #[.int .u64 s0, .int .u64 s1, .int .u64 s2, .int .u64 s3, .int .u64 s4, .int .u64 s5, .int .u64 s6, .int .u64 s7] 24)
      have k3 := stepB k3 hb7 (.cells #[.int .u64 s0, .int .u64 s1, .int .u64 s2, .int .u64 s3, .int .u64 s4, .int .u64 s5, .int .u64 s6, .int .u64 s7] 24)
      have k4 := stepB k4 hb7 (.cells #[.int .u64 s0, .int .u64 s1, .int .u64 s2, .int .u64 s3, .int .u64 s4, .int .u64 s5, .int .u64 s6, .int .u64 s7] 24)
      have k5 := stepB k5 hb7 (.cells #[.int .u64 s0, .int .u64 s1, .int .u64 s2, .int .u64 s3, .int .u64 s4, .int .u64 s5, .int .u64 s6, .int .u64 s7] 24)
      have k6 := stepB k6 hb7 (.cells #[.int .u64 s0, .int .u64 s1, .int .u64 s2, .int .u64 s3, .int .u64 s4, .int .u64 s5, .int .u64 s6, .int .u64 s7] 24)
      have k7 := (MapKept.heap_alloc v7 (.cells #[.int .u64 s0, .int .u64 s1, .int .u64 s2, .int .u64 s3, .int .u64 s4, .int .u64 s5, .int .u64 s6, .int .u64 s7] 24)).1
      obtain ⟨h100, h101, h102, h103, h104, h105, h106, h107, h108, h109, h110, h111, h112, h113, h114, h115⟩ := allX _ z8
      clear hb7 zz H14
      go_wp2_with fail
      generalize v7.alloc (.cells #[.int .u64 s0, .int .u64 s1, .int .u64 s2, .int .u64 s3, .int .u64 s4, .int .u64 s5, .int .u64 s6, .int .u64 s7] 24) = w17 at *
      generalize v7.heap.size = B7 at *
      clear h100 h101 h102 h103 h104 h105 h106 h107 h108 h109 h110 h111 h112 h113 h114 h115
      with_reducible refine (H15 _).mono ?_
      rintro e v8 ⟨r, rfl, rfl, hb8⟩
      have zz := next0 z8 hb8
      have z9 : Below wa.heap.size wa (v8.alloc (.cells #[.int .u64 t0, .int .u64 t1, .int .u64 t2, .int .u64 t3, .int .u64 t4, .int .u64 t5, .int .u64 t6, .int .u64 t7] 24)) := zz.alloc zz.size _
      have k0 := stepB k0 hb8 (.cells #[.int .u64 t0, .int .u64 t1, .int .u64 t2, .int .u64 t3, .int .u64 t4, .int .u64 t5, .int .u64 t6, .int .u64 t7] 24)
      have k1 := stepB k1 hb8 (.cells #[.int .u64 t0, .int .u64 t1, .int .u64 t2, .int .u64 t3, .int .u64 t4, .int .u64 t5, .int .u64 t6, .int .u64 t7] 24)
      have k2 := stepB k2 hb8 (.cells #[.int .u64 t0, .int .u64 t1, .int .u64 t2, .int .u64 t3, .int .u64 t4, .int .u64 t5, .int .u64 t6, .int .u64 t7] 24)
      have k3 := stepB k3 hb8 (.cells #[.int .u64 t0, .int .u64 t1, .int .u64 t2, .int .u64 t3, .int .u64 t4, .int .u64 t5, .int .u64 t6, .int .u64 t7] 24)
      have k4 := stepB k4 hb8 (.cells #[.int .u64 t0, .int .u64 t1, .int .u64 t2, .int .u64 t3, .int .u64 t4, .int .u64 t5, .int .u64 t6, .int .u64 t7] 24)
      have k5 := stepB k5 hb8 (.cells #[.int .u64 t0, .int .u64 t1, .int .u64 t2, .int .u64 t3, .int .u64 t4, .int .u64 t5, .int .u64 t6, .int .u64 t7] 24)
      have k6 := stepB k6 hb8 (.cells #[.int .u64 t0, .int .u64 t1, .int .u64 t2, .int .u64 t3, .int .u64 t4, .int .u64 t5, .int .u64 t6, .int .u64 t7] 24)
      have k7 := stepB k7 hb8 (.cells #[.int .u64 t0, .int .u64 t1, .int .u64 t2, .int .u64 t3, .int .u64 t4, .int .u64 t5, .int .u64 t6, .int .u64 t7] 24)
      have k8 := (MapKept.heap_alloc v8 (.cells #[.int .u64 t0, .int .u64 t1, .int .u64 t2, .int .u64 t3, .int .u64 t4, .int .u64 t5, .int .u64 t6, .int .u64 t7] 24)).1
      obtain ⟨h100, h101, h102, h103, h104, h105, h106, h107, h108, h109, h110, h111, h112, h113, h114, h115⟩ := allX _ z9
      clear hb8 zz H15
      go_wp2_with fail
      generalize v8.alloc (.cells #[.int .u64 t0, .int .u64 t1, .int .u64 t2, .int .u64 t3, .int .u64 t4, .int .u64 t5, .int .u64 t6, .int .u64 t7] 24) = w18 at *
      generalize v8.heap.size = B8 at *
      clear h100 h101 h102 h103 h104 h105 h106 h107 h108 h109 h110 h111 h112 h113 h114 h115
      with_reducible refine (H16 _).mono ?_
      rintro e v9 ⟨r, rfl, rfl, hb9⟩
      have zz := next0 z9 hb9
      have z10 : Below wa.heap.size wa (v9.alloc (.cells #[.int .u64 t0, .int .u64 t1, .int .u64 t2, .int .u64 t3, .int .u64 t4, .int .u64 t5, .int .u64 t6, .int .u64 t7] 24)) := zz.alloc zz.size _
      have k0 := stepB k0 hb9 (.cells #[.int .u64 t0, .int .u64 t1, .int .u64 t2, .int .u64 t3, .int .u64 t4, .int .u64 t5, .int .u64 t6, .int .u64 t7] 24)
      have k1 := stepB k1 hb9 (.cells #[.int .u64 t0, .int .u64 t1, .int .u64 t2, .int .u64 t3, .int .u64 t4, .int .u64 t5, .int .u64 t6, .int .u64 t7] 24)
      have k2 := stepB k2 hb9 (.cells #[.int .u64 t0, .int .u64 t1, .int .u64 t2, .int .u64 t3, .int .u64 t4, .int .u64 t5, .int .u64 t6, .int .u64 t7] 24)
      have k3 := stepB k3 hb9 (.cells #[.int .u64 t0, .int .u64 t1, .int .u64 t2, .int .u64 t3, .int .u64 t4, .int .u64 t5, .int .u64 t6, .int .u64 t7] 24)
      have k4 := stepB k4 hb9 (.cells #[.int .u64 t0, .int .u64 t1, .int .u64 t2, .int .u64 t3, .int .u64 t4, .int .u64 t5, .int .u64 t6, .int .u64 t7] 24)
      have k5 := stepB k5 hb9 (.cells #[.int .u64 t0, .int .u64 t1, .int .u64 t2, .int .u64 t3, .int .u64 t4, .int .u64 t5, .int .u64 t6, .int .u64 t7] 24)
      have k6 := stepB k6 hb9 (.cells #[.int .u64 t0, .int .u64 t1, .int .u64 t2, .int .u64 t3, .int .u64 t4, .int .u64 t5, .int .u64 t6, .int .u64 t7] 24)
      have k7 := stepB k7 hb9 (.cells #[.int .u64 t0, .int .u64 t1, .int .u64 t2, .int .u64 t3, .int .u64 t4, .int .u64 t5, .int .u64 t6, .int .u64 t7] 24)
      have k8 := stepB k8 hb9 (.cells #[.int .u64 t0, .int .u64 t1, .int .u64 t2, .int .u64 t3, .int .u64 t4, .int .u64 t5, .int .u64 t6, .int .u64 t7] 24)
      have k9 := (MapKept.heap_alloc v9 (.cells #[.int .u64 t0, .int .u64 t1, .int .u64 t2, .int .u64 t3, .int .u64 t4, .int .u64 t5, .int .u64 t6, .int .u64 t7] 24)).1
      obtain ⟨h100, h101, h102, h103, h104, h105, h106, h107, h108, h109, h110, h111, h112, h113, h114, h115⟩ := allX _ z10
      clear hb9 zz H16
      clear h100 h101 h102 h103 h104 h105 h106 h107 h108 h109 h110 h111 h112 h113 h114 h115
      obtain ⟨g0_0, g0_1, g0_2, g0_3, g0_4, g0_5, g0_6, g0_7⟩ : (v9.alloc (.cells #[.int .u64 t0, .int .u64 t1, .int .u64 t2, .int .u64 t3, .int .u64 t4, .int .u64 t5, .int .u64 t6, .int .u64 t7] 24)).cell? ⟨B0, 0, none⟩ = some (.int .u64 p0) ∧ (v9.alloc (.cells #[.int .u64 t0, .int .u64 t1, .int .u64 t2, .int .u64 t3, .int .u64 t4, .int .u64 t5, .int .u64 t6, .int .u64 t7] 24)).cell? ⟨B0, 1, none⟩ = some (.int .u64 p1) ∧ (v9.alloc (.cells #[.int .u64 t0, .int .u64 t1, .int .u64 t2, .int .u64 t3, .int .u64 t4, .int .u64 t5, .int .u64 t6, .int .u64 t7] 24)).cell? ⟨B0, 2, none⟩ = some (.int .u64 p2) ∧ (v9.alloc (.cells #[.int .u64 t0, .int .u64 t1, .int .u64 t2, .int .u64 t3, .int .u64 t4, .int .u64 t5, .int .u64 t6, .int .u64 t7] 24)).cell? ⟨B0, 3, none⟩ = some (.int .u64 p3) ∧ (v9.alloc (.cells #[.int .u64 t0, .int .u64 t1, .int .u64 t2, .int .u64 t3, .int .u64 t4, .int .u64 t5, .int .u64 t6, .int .u64 t7] 24)).cell? ⟨B0, 4, none⟩ = some (.int .u64 p4) ∧ (v9.alloc (.cells #[.int .u64 t0, .int .u64 t1, .int .u64 t2, .int .u64 t3, .int .u64 t4, .int .u64 t5, .int .u64 t6, .int .u64 t7] 24)).cell? ⟨B0, 5, none⟩ = some (.int .u64 p5) ∧ (v9.alloc (.cells #[.int .u64 t0, .int .u64 t1, .int .u64 t2, .int .u64 t3, .int .u64 t4, .int .u64 t5, .int .u64 t6, .int .u64 t7] 24)).cell? ⟨B0, 6, none⟩ = some (.int .u64 p6) ∧ (v9.alloc (.cells #[.int .u64 t0, .int .u64 t1, .int .u64 t2, .int .u64 t3, .int .u64 t4, .int .u64 t5, .int .u64 t6, .int .u64 t7] 24)).cell? ⟨B0, 7, none⟩ = some (.int .u64 p7) := ⟨(cellOf (j := 0) k0).trans rfl, (cellOf (j := 1) k0).trans rfl, (cellOf (j := 2) k0).trans rfl, (cellOf (j := 3) k0).trans rfl, (cellOf (j := 4) k0).trans rfl, (cellOf (j := 5) k0).trans rfl, (cellOf (j := 6) k0).trans rfl, (cellOf (j := 7) k0).trans rfl⟩
      obtain ⟨g1_0, g1_1, g1_2, g1_3, g1_4, g1_5, g1_6, g1_7⟩ : (v9.alloc (.cells #[.int .u64 t0, .int .u64 t1, .int .u64 t2, .int .u64 t3, .int .u64 t4, .int .u64 t5, .int .u64 t6, .int .u64 t7] 24)).cell? ⟨B1, 0, none⟩ = some (.int .u64 p0) ∧ (v9.alloc (.cells #[.int .u64 t0, .int .u64 t1, .int .u64 t2, .int .u64 t3, .int .u64 t4, .int .u64 t5, .int .u64 t6, .int .u64 t7] 24)).cell? ⟨B1, 1, none⟩ = some (.int .u64 p1) ∧ (v9.alloc (.cells #[.int .u64 t0, .int .u64 t1, .int .u64 t2, .int .u64 t3, .int .u64 t4, .int .u64 t5, .int .u64 t6, .int .u64 t7] 24)).cell? ⟨B1, 2, none⟩ = some (.int .u64 p2) ∧ (v9.alloc (.cells #[.int .u64 t0, .int .u64 t1, .int .u64 t2, .int .u64 t3, .int .u64 t4, .int .u64 t5, .int .u64 t6, .int .u64 t7] 24)).cell? ⟨B1, 3, none⟩ = some (.int .u64 p3) ∧ (v9.alloc (.cells #[.int .u64 t0, .int .u64 t1, .int .u64 t2, .int .u64 t3, .int .u64 t4, .int .u64 t5, .int .u64 t6, .int .u64 t7] 24)).cell? ⟨B1, 4, none⟩ = some (.int .u64 p4) ∧ (v9.alloc (.cells #[.int .u64 t0, .int .u64 t1, .int .u64 t2, .int .u64 t3, .int .u64 t4, .int .u64 t5, .int .u64 t6, .int .u64 t7] 24)).cell? ⟨B1, 5, none⟩ = some (.int .u64 p5) ∧ (v9.alloc (.cells #[.int .u64 t0, .int .u64 t1, .int .u64 t2, .int .u64 t3, .int .u64 t4, .int .u64 t5, .int .u64 t6, .int .u64 t7] 24)).cell? ⟨B1, 6, none⟩ = some (.int .u64 p6) ∧ (v9.alloc (.cells #[.int .u64 t0, .int .u64 t1, .int .u64 t2, .int .u64 t3, .int .u64 t4, .int .u64 t5, .int .u64 t6, .int .u64 t7] 24)).cell? ⟨B1, 7, none⟩ = some (.int .u64 p7) := ⟨(cellOf (j := 0) k1).trans rfl, (cellOf (j := 1) k1).trans rfl, (cellOf (j := 2) k1).trans rfl, (cellOf (j := 3) k1).trans rfl, (cellOf (j := 4) k1).trans rfl, (cellOf (j := 5) k1).trans rfl, (cellOf (j := 6) k1).trans rfl, (cellOf (j := 7) k1).trans rfl⟩
      obtain ⟨g2_0, g2_1, g2_2, g2_3, g2_4, g2_5, g2_6, g2_7⟩ : (v9.alloc (.cells #[.int .u64 t0, .int .u64 t1, .int .u64 t2, .int .u64 t3, .int .u64 t4, .int .u64 t5, .int .u64 t6, .int .u64 t7] 24)).cell? ⟨B2, 0, none⟩ = some (.int .u64 q0) ∧ (v9.alloc (.cells #[.int .u64 t0, .int .u64 t1, .int .u64 t2, .int .u64 t3, .int .u64 t4, .int .u64 t5, .int .u64 t6, .int .u64 t7] 24)).cell? ⟨B2, 1, none⟩ = some (.int .u64 q1) ∧ (v9.alloc (.cells #[.int .u64 t0, .int .u64 t1, .int .u64 t2, .int .u64 t3, .int .u64 t4, .int .u64 t5, .int .u64 t6, .int .u64 t7] 24)).cell? ⟨B2, 2, none⟩ = some (.int .u64 q2) ∧ (v9.alloc (.cells #[.int .u64 t0, .int .u64 t1, .int .u64 t2, .int .u64 t3, .int .u64 t4, .int .u64 t5, .int .u64 t6, .int .u64 t7] 24)).cell? ⟨B2, 3, none⟩ = some (.int .u64 q3) ∧ (v9.alloc (.cells #[.int .u64 t0, .int .u64 t1, .int .u64 t2, .int .u64 t3, .int .u64 t4, .int .u64 t5, .int .u64 t6, .int .u64 t7] 24)).cell? ⟨B2, 4, none⟩ = some (.int .u64 q4) ∧ (v9.alloc (.cells #[.int .u64 t0, .int .u64 t1, .int .u64 t2, .int .u64 t3, .int .u64 t4, .int .u64 t5, .int .u64 t6, .int .u64 t7] 24)).cell? ⟨B2, 5, none⟩ = some (.int .u64 q5) ∧ (v9.alloc (.cells #[.int .u64 t0, .int .u64 t1, .int .u64 t2, .int .u64 t3, .int .u64 t4, .int .u64 t5, .int .u64 t6, .int .u64 t7] 24)).cell? ⟨B2, 6, none⟩ = some (.int .u64 q6) ∧ (v9.alloc (.cells #[.int .u64 t0, .int .u64 t1, .int .u64 t2, .int .u64 t3, .int .u64 t4, .int .u64 t5, .int .u64 t6, .int .u64 t7] 24)).cell? ⟨B2, 7, none⟩ = some (.int .u64 q7) := ⟨(cellOf (j := 0) k2).trans rfl, (cellOf (j := 1) k2).trans rfl, (cellOf (j := 2) k2).trans rfl, (cellOf (j := 3) k2).trans rfl, (cellOf (j := 4) k2).trans rfl, (cellOf (j := 5) k2).trans rfl, (cellOf (j := 6) k2).trans rfl, (cellOf (j := 7) k2).trans rfl⟩
      obtain ⟨g3_0, g3_1, g3_2, g3_3, g3_4, g3_5, g3_6, g3_7⟩ : (v9.alloc (.cells #[.int .u64 t0, .int .u64 t1, .int .u64 t2, .int .u64 t3, .int .u64 t4, .int .u64 t5, .int .u64 t6, .int .u64 t7] 24)).cell? ⟨B3, 0, none⟩ = some (.int .u64 q0) ∧ (v9.alloc (.cells #[.int .u64 t0, .int .u64 t1, .int .u64 t2, .int .u64 t3, .int .u64 t4, .int .u64 t5, .int .u64 t6, .int .u64 t7] 24)).cell? ⟨B3, 1, none⟩ = some (.int .u64 q1) ∧ (v9.alloc (.cells #[.int .u64 t0, .int .u64 t1, .int .u64 t2, .int .u64 t3, .int .u64 t4, .int .u64 t5, .int .u64 t6, .int .u64 t7] 24)).cell? ⟨B3, 2, none⟩ = some (.int .u64 q2) ∧ (v9.alloc (.cells #[.int .u64 t0, .int .u64 t1, .int .u64 t2, .int .u64 t3, .int .u64 t4, .int .u64 t5, .int .u64 t6, .int .u64 t7] 24)).cell? ⟨B3, 3, none⟩ = some (.int .u64 q3) ∧ (v9.alloc (.cells #[.int .u64 t0, .int .u64 t1, .int .u64 t2, .int .u64 t3, .int .u64 t4, .int .u64 t5, .int .u64 t6, .int .u64 t7] 24)).cell? ⟨B3, 4, none⟩ = some (.int .u64 q4) ∧ (v9.alloc (.cells #[.int .u64 t0, .int .u64 t1, .int .u64 t2, .int .u64 t3, .int .u64 t4, .int .u64 t5, .int .u64 t6, .int .u64 t7] 24)).cell? ⟨B3, 5, none⟩ = some (.int .u64 q5) ∧ (v9.alloc (.cells #[.int .u64 t0, .int .u64 t1, .int .u64 t2, .int .u64 t3, .int .u64 t4, .int .u64 t5, .int .u64 t6, .int .u64 t7] 24)).cell? ⟨B3, 6, none⟩ = some (.int .u64 q6) ∧ (v9.alloc (.cells #[.int .u64 t0, .int .u64 t1, .int .u64 t2, .int .u64 t3, .int .u64 t4, .int .u64 t5, .int .u64 t6, .int .u64 t7] 24)).cell? ⟨B3, 7, none⟩ = some (.int .u64 q7) := ⟨(cellOf (j := 0) k3).trans rfl, (cellOf (j := 1) k3).trans rfl, (cellOf (j := 2) k3).trans rfl, (cellOf (j := 3) k3).trans rfl, (cellOf (j := 4) k3).trans rfl, (cellOf (j := 5) k3).trans rfl, (cellOf (j := 6) k3).trans rfl, (cellOf (j := 7) k3).trans rfl⟩
      obtain ⟨g4_0, g4_1, g4_2, g4_3, g4_4, g4_5, g4_6, g4_7⟩ : (v9.alloc (.cells #[.int .u64 t0, .int .u64 t1, .int .u64 t2, .int .u64 t3, .int .u64 t4, .int .u64 t5, .int .u64 t6, .int .u64 t7] 24)).cell? ⟨B4, 0, none⟩ = some (.int .u64 r0) ∧ (v9.alloc (.cells #[.int .u64 t0, .int .u64 t1, .int .u64 t2, .int .u64 t3, .int .u64 t4, .int .u64 t5, .int .u64 t6, .int .u64 t7] 24)).cell? ⟨B4, 1, none⟩ = some (.int .u64 r1) ∧ (v9.alloc (.cells #[.int .u64 t0, .int .u64 t1, .int .u64 t2, .int .u64 t3, .int .u64 t4, .int .u64 t5, .int .u64 t6, .int .u64 t7] 24)).cell? ⟨B4, 2, none⟩ = some (.int .u64 r2) ∧ (v9.alloc (.cells #[.int .u64 t0, .int .u64 t1, .int .u64 t2, .int .u64 t3, .int .u64 t4, .int .u64 t5, .int .u64 t6, .int .u64 t7] 24)).cell? ⟨B4, 3, none⟩ = some (.int .u64 r3) ∧ (v9.alloc (.cells #[.int .u64 t0, .int .u64 t1, .int .u64 t2, .int .u64 t3, .int .u64 t4, .int .u64 t5, .int .u64 t6, .int .u64 t7] 24)).cell? ⟨B4, 4, none⟩ = some (.int .u64 r4) ∧ (v9.alloc (.cells #[.int .u64 t0, .int .u64 t1, .int .u64 t2, .int .u64 t3, .int .u64 t4, .int .u64 t5, .int .u64 t6, .int .u64 t7] 24)).cell? ⟨B4, 5, none⟩ = some (.int .u64 r5) ∧ (v9.alloc (.cells #[.int .u64 t0, .int .u64 t1, .int .u64 t2, .int .u64 t3, .int .u64 t4, .int .u64 t5, .int .u64 t6, .int .u64 t7] 24)).cell? ⟨B4, 6, none⟩ = some (.int .u64 r6) ∧ (v9.alloc (.cells #[.int .u64 t0, .int .u64 t1, .int .u64 t2, .int .u64 t3, .int .u64 t4, .int .u64 t5, .int .u64 t6, .int .u64 t7] 24)).cell? ⟨B4, 7, none⟩ = some (.int .u64 r7) := ⟨(cellOf (j := 0) k4).trans rfl, (cellOf (j := 1) k4).trans rfl, (cellOf (j := 2) k4).trans rfl, (cellOf (j := 3) k4).trans rfl, (cellOf (j := 4) k4).trans rfl, (cellOf (j := 5) k4).trans rfl, (cellOf (j := 6) k4).trans rfl, (cellOf (j := 7) k4).trans rfl⟩
      obtain ⟨g5_0, g5_1, g5_2, g5_3, g5_4, g5_5, g5_6, g5_7⟩ : (v9.alloc (.cells #[.int .u64 t0, .int .u64 t1, .int .u64 t2, .int .u64 t3, .int .u64 t4, .int .u64 t5, .int .u64 t6, .int .u64 t7] 24)).cell? ⟨B5, 0, none⟩ = some (.int .u64 r0) ∧ (v9.alloc (.cells #[.int .u64 t0, .int .u64 t1, .int .u64 t2, .int .u64 t3, .int .u64 t4, .int .u64 t5, .int .u64 t6, .int .u64 t7] 24)).cell? ⟨B5, 1, none⟩ = some (.int .u64 r1) ∧ (v9.alloc (.cells #[.int .u64 t0, .int .u64 t1, .int .u64 t2, .int .u64 t3, .int .u64 t4, .int .u64 t5, .int .u64 t6, .int .u64 t7] 24)).cell? ⟨B5, 2, none⟩ = some (.int .u64 r2) ∧ (v9.alloc (.cells #[.int .u64 t0, .int .u64 t1, .int .u64 t2, .int .u64 t3, .int .u64 t4, .int .u64 t5, .int .u64 t6, .int .u64 t7] 24)).cell? ⟨B5, 3, none⟩ = some (.int .u64 r3) ∧ (v9.alloc (.cells #[.int .u64 t0, .int .u64 t1, .int .u64 t2, .int .u64 t3, .int .u64 t4, .int .u64 t5, .int .u64 t6, .int .u64 t7] 24)).cell? ⟨B5, 4, none⟩ = some (.int .u64 r4) ∧ (v9.alloc (.cells #[.int .u64 t0, .int .u64 t1, .int .u64 t2, .int .u64 t3, .int .u64 t4, .int .u64 t5, .int .u64 t6, .int .u64 t7] 24)).cell? ⟨B5, 5, none⟩ = some (.int .u64 r5) ∧ (v9.alloc (.cells #[.int .u64 t0, .int .u64 t1, .int .u64 t2, .int .u64 t3, .int .u64 t4, .int .u64 t5, .int .u64 t6, .int .u64 t7] 24)).cell? ⟨B5, 6, none⟩ = some (.int .u64 r6) ∧ (v9.alloc (.cells #[.int .u64 t0, .int .u64 t1, .int .u64 t2, .int .u64 t3, .int .u64 t4, .int .u64 t5, .int .u64 t6, .int .u64 t7] 24)).cell? ⟨B5, 7, none⟩ = some (.int .u64 r7) := ⟨(cellOf (j := 0) k5).trans rfl, (cellOf (j := 1) k5).trans rfl, (cellOf (j := 2) k5).trans rfl, (cellOf (j := 3) k5).trans rfl, (cellOf (j := 4) k5).trans rfl, (cellOf (j := 5) k5).trans rfl, (cellOf (j := 6) k5).trans rfl, (cellOf (j := 7) k5).trans rfl⟩
      obtain ⟨g6_0, g6_1, g6_2, g6_3, g6_4, g6_5, g6_6, g6_7⟩ : (v9.alloc (.cells #[.int .u64 t0, .int .u64 t1, .int .u64 t2, .int .u64 t3, .int .u64 t4, .int .u64 t5, .int .u64 t6, .int .u64 t7] 24)).cell? ⟨B6, 0, none⟩ = some (.int .u64 s0) ∧ (v9.alloc (.cells #[.int .u64 t0, .int .u64 t1, .int .u64 t2, .int .u64 t3, .int .u64 t4, .int .u64 t5, .int .u64 t6, .int .u64 t7] 24)).cell? ⟨B6, 1, none⟩ = some (.int .u64 s1) ∧ (v9.alloc (.cells #[.int .u64 t0, .int .u64 t1, .int .u64 t2, .int .u64 t3, .int .u64 t4, .int .u64 t5, .int .u64 t6, .int .u64 t7] 24)).cell? ⟨B6, 2, none⟩ = some (.int .u64 s2) ∧ (v9.alloc (.cells #[.int .u64 t0, .int .u64 t1, .int .u64 t2, .int .u64 t3, .int .u64 t4, .int .u64 t5, .int .u64 t6, .int .u64 t7] 24)).cell? ⟨B6, 3, none⟩ = some (.int .u64 s3) ∧ (v9.alloc (.cells #[.int .u64 t0, .int .u64 t1, .int .u64 t2, .int .u64 t3, .int .u64 t4, .int .u64 t5, .int .u64 t6, .int .u64 t7] 24)).cell? ⟨B6, 4, none⟩ = some (.int .u64 s4) ∧ (v9.alloc (.cells #[.int .u64 t0, .int .u64 t1, .int .u64 t2, .int .u64 t3, .int .u64 t4, .int .u64 t5, .int .u64 t6, .int .u64 t7] 24)).cell? ⟨B6, 5, none⟩ = some (.int .u64 s5) ∧ (v9.alloc (.cells #[.int .u64 t0, .int .u64 t1, .int .u64 t2, .int .u64 t3, .int .u64 t4, .int .u64 t5, .int .u64 t6, .int .u64 t7] 24)).cell? ⟨B6, 6, none⟩ = some (.int .u64 s6) ∧ (v9.alloc (.cells #[.int .u64 t0, .int .u64 t1, .int .u64 t2, .int .u64 t3, .int .u64 t4, .int .u64 t5, .int .u64 t6, .int .u64 t7] 24)).cell? ⟨B6, 7, none⟩ = some (.int .u64 s7) := ⟨(cellOf (j := 0) k6).trans rfl, (cellOf (j := 1) k6).trans rfl, (cellOf (j := 2) k6).trans rfl, (cellOf (j := 3) k6).trans rfl, (cellOf (j := 4) k6).trans rfl, (cellOf (j := 5) k6).trans rfl, (cellOf (j := 6) k6).trans rfl, (cellOf (j := 7) k6).trans rfl⟩
      obtain ⟨g7_0, g7_1, g7_2, g7_3, g7_4, g7_5, g7_6, g7_7⟩ : (v9.alloc (.cells #[.int .u64 t0, .int .u64 t1, .int .u64 t2, .int .u64 t3, .int .u64 t4, .int .u64 t5, .int .u64 t6, .int .u64 t7] 24)).cell? ⟨B7, 0, none⟩ = some (.int .u64 s0) ∧ (v9.alloc (.cells #[.int .u64 t0, .int .u64 t1, .int .u64 t2, .int .u64 t3, .int .u64 t4, .int .u64 t5, .int .u64 t6, .int .u64 t7] 24)).cell? ⟨B7, 1, none⟩ = some (.int .u64 s1) ∧ (v9.alloc (.cells #[.int .u64 t0, .int .u64 t1, .int .u64 t2, .int .u64 t3, .int .u64 t4, .int .u64 t5, .int .u64 t6, .int .u64 t7] 24)).cell? ⟨B7, 2, none⟩ = some (.int .u64 s2) ∧ (v9.alloc (.cells #[.int .u64 t0, .int .u64 t1, .int .u64 t2, .int .u64 t3, .int .u64 t4, .int .u64 t5, .int .u64 t6, .int .u64 t7] 24)).cell? ⟨B7, 3, none⟩ = some (.int .u64 s3) ∧ (v9.alloc (.cells #[.int .u64 t0, .int .u64 t1, .int .u64 t2, .int .u64 t3, .int .u64 t4, .int .u64 t5, .int .u64 t6, .int .u64 t7] 24)).cell? ⟨B7, 4, none⟩ = some (.int .u64 s4) ∧ (v9.alloc (.cells #[.int .u64 t0, .int .u64 t1, .int .u64 t2, .int .u64 t3, .int .u64 t4, .int .u64 t5, .int .u64 t6, .int .u64 t7] 24)).cell? ⟨B7, 5, none⟩ = some (.int .u64 s5) ∧ (v9.alloc (.cells #[.int .u64 t0, .int .u64 t1, .int .u64 t2, .int .u64 t3, .int .u64 t4, .int .u64 t5, .int .u64 t6, .int .u64 t7] 24)).cell? ⟨B7, 6, none⟩ = some (.int .u64 s6) ∧ (v9.alloc (.cells #[.int .u64 t0, .int .u64 t1, .int .u64 t2, .int .u64 t3, .int .u64 t4, .int .u64 t5, .int .u64 t6, .int .u64 t7] 24)).cell? ⟨B7, 7, none⟩ = some (.int .u64 s7) := ⟨(cellOf (j := 0) k7).trans rfl, (cellOf (j := 1) k7).trans rfl, (cellOf (j := 2) k7).trans rfl, (cellOf (j := 3) k7).trans rfl, (cellOf (j := 4) k7).trans rfl, (cellOf (j := 5) k7).trans rfl, (cellOf (j := 6) k7).trans rfl, (cellOf (j := 7) k7).trans rfl⟩
      obtain ⟨g8_0, g8_1, g8_2, g8_3, g8_4, g8_5, g8_6, g8_7⟩ : (v9.alloc (.cells #[.int .u64 t0, .int .u64 t1, .int .u64 t2, .int .u64 t3, .int .u64 t4, .int .u64 t5, .int .u64 t6, .int .u64 t7] 24)).cell? ⟨B8, 0, none⟩ = some (.int .u64 t0) ∧ (v9.alloc (.cells #[.int .u64 t0, .int .u64 t1, .int .u64 t2, .int .u64 t3, .int .u64 t4, .int .u64 t5, .int .u64 t6, .int .u64 t7] 24)).cell? ⟨B8, 1, none⟩ = some (.int .u64 t1) ∧ (v9.alloc (.cells #[.int .u64 t0, .int .u64 t1, .int .u64 t2, .int .u64 t3, .int .u64 t4, .int .u64 t5, .int .u64 t6, .int .u64 t7] 24)).cell? ⟨B8, 2, none⟩ = some (.int .u64 t2) ∧ (v9.alloc (.cells #[.int .u64 t0, .int .u64 t1, .int .u64 t2, .int .u64 t3, .int .u64 t4, .int .u64 t5, .int .u64 t6, .int .u64 t7] 24)).cell? ⟨B8, 3, none⟩ = some (.int .u64 t3) ∧ (v9.alloc (.cells #[.int .u64 t0, .int .u64 t1, .int .u64 t2, .int .u64 t3, .int .u64 t4, .int .u64 t5, .int .u64 t6, .int .u64 t7] 24)).cell? ⟨B8, 4, none⟩ = some (.int .u64 t4) ∧ (v9.alloc (.cells #[.int .u64 t0, .int .u64 t1, .int .u64 t2, .int .u64 t3, .int .u64 t4, .int .u64 t5, .int .u64 t6, .int .u64 t7] 24)).cell? ⟨B8, 5, none⟩ = some (.int .u64 t5) ∧ (v9.alloc (.cells #[.int .u64 t0, .int .u64 t1, .int .u64 t2, .int .u64 t3, .int .u64 t4, .int .u64 t5, .int .u64 t6, .int .u64 t7] 24)).cell? ⟨B8, 6, none⟩ = some (.int .u64 t6) ∧ (v9.alloc (.cells #[.int .u64 t0, .int .u64 t1, .int .u64 t2, .int .u64 t3, .int .u64 t4, .int .u64 t5, .int .u64 t6, .int .u64 t7] 24)).cell? ⟨B8, 7, none⟩ = some (.int .u64 t7) := ⟨(cellOf (j := 0) k8).trans rfl, (cellOf (j := 1) k8).trans rfl, (cellOf (j := 2) k8).trans rfl, (cellOf (j := 3) k8).trans rfl, (cellOf (j := 4) k8).trans rfl, (cellOf (j := 5) k8).trans rfl, (cellOf (j := 6) k8).trans rfl, (cellOf (j := 7) k8).trans rfl⟩
      obtain ⟨g9_0, g9_1, g9_2, g9_3, g9_4, g9_5, g9_6, g9_7⟩ : (v9.alloc (.cells #[.int .u64 t0, .int .u64 t1, .int .u64 t2, .int .u64 t3, .int .u64 t4, .int .u64 t5, .int .u64 t6, .int .u64 t7] 24)).cell? ⟨v9.heap.size, 0, none⟩ = some (.int .u64 t0) ∧ (v9.alloc (.cells #[.int .u64 t0, .int .u64 t1, .int .u64 t2, .int .u64 t3, .int .u64 t4, .int .u64 t5, .int .u64 t6, .int .u64 t7] 24)).cell? ⟨v9.heap.size, 1, none⟩ = some (.int .u64 t1) ∧ (v9.alloc (.cells #[.int .u64 t0, .int .u64 t1, .int .u64 t2, .int .u64 t3, .int .u64 t4, .int .u64 t5, .int .u64 t6, .int .u64 t7] 24)).cell? ⟨v9.heap.size, 2, none⟩ = some (.int .u64 t2) ∧ (v9.alloc (.cells #[.int .u64 t0, .int .u64 t1, .int .u64 t2, .int .u64 t3, .int .u64 t4, .int .u64 t5, .int .u64 t6, .int .u64 t7] 24)).cell? ⟨v9.heap.size, 3, none⟩ = some (.int .u64 t3) ∧ (v9.alloc (.cells #[.int .u64 t0, .int .u64 t1, .int .u64 t2, .int .u64 t3, .int .u64 t4, .int .u64 t5, .int .u64 t6, .int .u64 t7] 24)).cell? ⟨v9.heap.size, 4, none⟩ = some (.int .u64 t4) ∧ (v9.alloc (.cells #[.int .u64 t0, .int .u64 t1, .int .u64 t2, .int .u64 t3, .int .u64 t4, .int .u64 t5, .int .u64 t6, .int .u64 t7] 24)).cell? ⟨v9.heap.size, 5, none⟩ = some (.int .u64 t5) ∧ (v9.alloc (.cells #[.int .u64 t0, .int .u64 t1, .int .u64 t2, .int .u64 t3, .int .u64 t4, .int .u64 t5, .int .u64 t6, .int .u64 t7] 24)).cell? ⟨v9.heap.size, 6, none⟩ = some (.int .u64 t6) ∧ (v9.alloc (.cells #[.int .u64 t0, .int .u64 t1, .int .u64 t2, .int .u64 t3, .int .u64 t4, .int .u64 t5, .int .u64 t6, .int .u64 t7] 24)).cell? ⟨v9.heap.size, 7, none⟩ = some (.int .u64 t7) := ⟨(cellOf (j := 0) k9).trans rfl, (cellOf (j := 1) k9).trans rfl, (cellOf (j := 2) k9).trans rfl, (cellOf (j := 3) k9).trans rfl, (cellOf (j := 4) k9).trans rfl, (cellOf (j := 5) k9).trans rfl, (cellOf (j := 6) k9).trans rfl, (cellOf (j := 7) k9).trans rfl⟩
      have hBe : Below w7.heap.size w7 (v9.alloc (.cells #[.int .u64 t0, .int .u64 t1, .int .u64 t2, .int .u64 t3, .int .u64 t4, .int .u64 t5, .int .u64 t6, .int .u64 t7] 24)) := hBa.trans (z10.mono hBa.size)
      clear allX kx hBa z0 z1 z2 z3 z4 z5 z6 z7 z8 z9 z10 k0 k1 k2 k3 k4 k5 k6 k7 k8 k9
      go_wp2
      go_roundw
      case rel => exact ⟨k + 1, rfl, by omega, hBe⟩
      case measure => simp [intOf]; omega
    · obtain rfl : k = 6 := by omega
      go_wp2
      exact hB
end Go.Proofs.YtedhjlkidcojhaaGreat
