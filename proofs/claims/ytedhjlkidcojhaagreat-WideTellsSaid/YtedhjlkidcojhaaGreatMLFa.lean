/-
  The loop of the law WideTells.
-/
import Derived.Test.YtedhjlkidcojhaaGreatMLE
import Derived.Test.YtedhjlkidcojhaaGreatMR
import Derived.Test.YtedhjlkidcojhaaGreatMI
set_option linter.all false
namespace Go.Proofs.YtedhjlkidcojhaaGreat
open Go Go.Rx Go.RowKit Go.Big
attribute [local instance] noAv
theorem gives_gets {f : FuncId} {xs : List Value} {x : Value} (h : Gives Tryz.prog f xs x) (W : World) : Calls Tryz.prog f xs.toArray W (Gets (fun _ r => r = x) W) :=
  ((h W).2).mono fun _ _ he => ⟨x, he.1, rfl, he.2⟩
theorem cellsP_len (p : Int × Int) : (cellsP p).length = 16 := rfl
theorem flat_get : ∀ (qs : List (Int × Int)) (k i : Nat), k < qs.length → i < 16 → (qs.flatMap cellsP)[k * 16 + i]? = (cellsP (qs.getD k (0, 0)))[i]?
  | [], k, i, hk, _ => absurd hk (Nat.not_lt_zero _)
  | p :: qs, 0, i, _, hi => by
    rw [List.flatMap_cons, Nat.zero_mul, Nat.zero_add, List.getElem?_append_left (by rw [cellsP_len]; exact hi)]
    rfl
  | p :: qs, k + 1, i, hk, hi => by
    rw [List.flatMap_cons, List.getElem?_append_right (by rw [cellsP_len]; omega), cellsP_len, show (k + 1) * 16 + i - 16 = k * 16 + i by omega]
    exact flat_get qs k i (by simpa using hk) hi
theorem qs_mem {qs : List (Int × Int)} {k : Nat} (h : k < qs.length) : qs.getD k (0, 0) ∈ qs := by
  simp [List.getD, h]
/-- The cells of a pair in a row. -/
theorem pair_cells {U : World} {base g cap : Nat} {qs : List (Int × Int)} {k : Nat} {x y : Int} {x0 x1 x2 x3 x4 x5 x6 x7 y0 y1 y2 y3 y4 y5 y6 y7 : Int} (hown : U.ownsRow base 35 16 (.slice (some ⟨g, 0, none⟩) 7 cap) 7 (qs.flatMap cellsP)) (hl : qs.length = 7) (hk : k < 7) (hxy : qs.getD k (0, 0) = (x, y))
    (hx : W x = .agg #[.int .u64 x0, .int .u64 x1, .int .u64 x2, .int .u64 x3, .int .u64 x4, .int .u64 x5, .int .u64 x6, .int .u64 x7]) (hy : W y = .agg #[.int .u64 y0, .int .u64 y1, .int .u64 y2, .int .u64 y3, .int .u64 y4, .int .u64 y5, .int .u64 y6, .int .u64 y7]) : U.cell? ⟨g, k * 16, none⟩ = some (.int .u64 x0) ∧ U.cell? ⟨g, k * 16 + 1, none⟩ = some (.int .u64 x1) ∧ U.cell? ⟨g, k * 16 + 2, none⟩ = some (.int .u64 x2) ∧ U.cell? ⟨g, k * 16 + 3, none⟩ = some (.int .u64 x3) ∧ U.cell? ⟨g, k * 16 + 4, none⟩ = some (.int .u64 x4) ∧ U.cell? ⟨g, k * 16 + 5, none⟩ = some (.int .u64 x5) ∧ U.cell? ⟨g, k * 16 + 6, none⟩ = some (.int .u64 x6) ∧ U.cell? ⟨g, k * 16 + 7, none⟩ = some (.int .u64 x7) ∧ U.cell? ⟨g, k * 16 + 8, none⟩ = some (.int .u64 y0) ∧ U.cell? ⟨g, k * 16 + 9, none⟩ = some (.int .u64 y1) ∧ U.cell? ⟨g, k * 16 + 10, none⟩ = some (.int .u64 y2) ∧ U.cell? ⟨g, k * 16 + 11, none⟩ = some (.int .u64 y3) ∧ U.cell? ⟨g, k * 16 + 12, none⟩ = some (.int .u64 y4) ∧ U.cell? ⟨g, k * 16 + 13, none⟩ = some (.int .u64 y5) ∧ U.cell? ⟨g, k * 16 + 14, none⟩ = some (.int .u64 y6) ∧ U.cell? ⟨g, k * 16 + 15, none⟩ = some (.int .u64 y7) := by
  have hc : ∀ i, i < 16 → U.cell? ⟨g, k * 16 + i, none⟩ = (cellsP (x, y))[i]? := fun i hi => by
    rw [hown.cellAt _ (by omega), flat_get qs k i (by omega) hi, hxy]
  have e : cellsP (x, y) = [.int .u64 x0, .int .u64 x1, .int .u64 x2, .int .u64 x3, .int .u64 x4, .int .u64 x5, .int .u64 x6, .int .u64 x7, .int .u64 y0, .int .u64 y1, .int .u64 y2, .int .u64 y3, .int .u64 y4, .int .u64 y5, .int .u64 y6, .int .u64 y7] := by unfold cellsP; rw [W8_of hx, W8_of hy]; rfl
  rw [e] at hc
  exact ⟨(hc 0 (by decide)).trans rfl, (hc 1 (by decide)).trans rfl, (hc 2 (by decide)).trans rfl, (hc 3 (by decide)).trans rfl, (hc 4 (by decide)).trans rfl, (hc 5 (by decide)).trans rfl, (hc 6 (by decide)).trans rfl, (hc 7 (by decide)).trans rfl, (hc 8 (by decide)).trans rfl, (hc 9 (by decide)).trans rfl, (hc 10 (by decide)).trans rfl, (hc 11 (by decide)).trans rfl, (hc 12 (by decide)).trans rfl, (hc 13 (by decide)).trans rfl, (hc 14 (by decide)).trans rfl, (hc 15 (by decide)).trans rfl⟩
def findL : Code → Option Code
  | .loop c => some (.loop c)
  | .seq a b => match findL a with | some c => some c | none => findL b
  | .block _ c => findL c
  | .scope c => findL c
  | .cond _ a b => match findL a with | some c => some c | none => findL b
  | _ => none
noncomputable def tellsL : Code := ((Tryz.f3.body.bind findL).getD .skip)
set_option maxHeartbeats 4000000 in
set_option maxRecDepth 100000 in
theorem tells_loop {w7 : World} {base g cap : Nat} {qs : List (Int × Int)} (hq : ∀ p ∈ qs, fit p.1 ∧ fit p.2) (hl : qs.length = 7) (hown : w7.ownsRow base 35 16 (.slice (some ⟨g, 0, none⟩) 7 cap) 7 (qs.flatMap cellsP))
    (c0 c1 c2 c3 c5 c6 c12 c13 c14 c15 c16 c17 c18 c19 c20 c21 c22 c23 c24 c25 c26 c27 u4 u7 u8 u9 u10 u11 u31 u32 u33 u34 u35 u36 u37 u38 u39 u40 u41 u42 u43 u44 u45 u46 u47 u48 u49 u50 u51 u52 u53 u54 u55 u56 u57 u58 u59 u60 u61 u62 u63 u64 u65 u66 u67 u68 u69 u70 u71 u72 u73 u74 u75 u76 : Value) (Q : Exit → Act → World → Prop)
    (hQ : ∀ (u4 u7 u8 u9 u10 u11 u31 u32 u33 u34 u35 u36 u37 u38 u39 u40 u41 u42 u43 u44 u45 u46 u47 u48 u49 u50 u51 u52 u53 u54 u55 u56 u57 u58 u59 u60 u61 u62 u63 u64 u65 u66 u67 u68 u69 u70 u71 u72 u73 u74 u75 u76 : Value) (W : World), Below w7.heap.size w7 W → Q (.exit 0) ⟨(List.toArray (c0 :: c1 :: c2 :: c3 :: u4 :: c5 :: c6 :: u7 :: u8 :: u9 :: u10 :: u11 :: c12 :: c13 :: c14 :: c15 :: c16 :: c17 :: c18 :: c19 :: c20 :: c21 :: c22 :: c23 :: c24 :: c25 :: c26 :: c27 :: (.slice (some ⟨g, 0, none⟩) 7 cap) :: (.int .i64 7) :: (.int .i64 7) :: u31 :: u32 :: u33 :: u34 :: u35 :: u36 :: u37 :: u38 :: u39 :: u40 :: u41 :: u42 :: u43 :: u44 :: u45 :: u46 :: u47 :: u48 :: u49 :: u50 :: u51 :: u52 :: u53 :: u54 :: u55 :: u56 :: u57 :: u58 :: u59 :: u60 :: u61 :: u62 :: u63 :: u64 :: u65 :: u66 :: u67 :: u68 :: u69 :: u70 :: u71 :: u72 :: u73 :: u74 :: u75 :: u76 :: [])), []⟩ W) :
    Code.wp Tryz.prog tellsL Q ⟨(List.toArray (c0 :: c1 :: c2 :: c3 :: u4 :: c5 :: c6 :: u7 :: u8 :: u9 :: u10 :: u11 :: c12 :: c13 :: c14 :: c15 :: c16 :: c17 :: c18 :: c19 :: c20 :: c21 :: c22 :: c23 :: c24 :: c25 :: c26 :: c27 :: (.slice (some ⟨g, 0, none⟩) 7 cap) :: (.int .i64 7) :: (.int .i64 0) :: u31 :: u32 :: u33 :: u34 :: u35 :: u36 :: u37 :: u38 :: u39 :: u40 :: u41 :: u42 :: u43 :: u44 :: u45 :: u46 :: u47 :: u48 :: u49 :: u50 :: u51 :: u52 :: u53 :: u54 :: u55 :: u56 :: u57 :: u58 :: u59 :: u60 :: u61 :: u62 :: u63 :: u64 :: u65 :: u66 :: u67 :: u68 :: u69 :: u70 :: u71 :: u72 :: u73 :: u74 :: u75 :: u76 :: [])), []⟩ w7 := by
  obtain ⟨g', cap', hg', -, hglt⟩ := hown.form (by decide)
  obtain ⟨rfl, rfl⟩ : g = g' ∧ cap = cap' := by injection hg' with h1 h2 h3; injection h1 with h1; injection h1 with h1; exact ⟨h1, h3⟩
  clear hg'
  conv => arg 2; whnf
  go_loopw [30] (fun i wr => ∃ k : Nat, i = .int .i64 k ∧ k ≤ 7 ∧ Below w7.heap.size w7 wr) (fun i _ => 7 - (intOf i).toNat)
  case atStart => exact ⟨0, rfl, by omega, Below.refl _ _⟩
  case round =>
    obtain ⟨k, rfl, hk, hB⟩ := hrel
    by_cases h7 : k < 7
    · obtain ⟨x, y, hxy⟩ : ∃ x y, qs.getD k (0, 0) = (x, y) := ⟨_, _, rfl⟩
      have hmem := hq _ (qs_mem (by rw [hl]; exact h7))
      rw [hxy] at hmem
      obtain ⟨hx, hy⟩ := hmem
      obtain ⟨x0, x1, x2, x3, x4, x5, x6, x7, -, -, hwx⟩ := words_of hx
      obtain ⟨y0, y1, y2, y3, y4, y5, y6, y7, -, -, hwy⟩ := words_of hy
      obtain ⟨h100, h101, h102, h103, h104, h105, h106, h107, h108, h109, h110, h111, h112, h113, h114, h115⟩ := pair_cells (own_of_block hown (fun b _ hb => hB.block b hb)) hl h7 hxy hwx hwy
      obtain ⟨mm, ee, hme⟩ : ∃ m e, intR x = .tuple #[.int .i64 m, .int .i64 e] := by unfold intR; split <;> exact ⟨_, _, rfl⟩
      have hI1 : ∀ W, Calls Tryz.prog 10 #[.agg #[.int .u64 x0, .int .u64 x1, .int .u64 x2, .int .u64 x3, .int .u64 x4, .int .u64 x5, .int .u64 x6, .int .u64 x7]] W (Gets (fun _ r => r = .tuple #[.int .i64 mm, .int .i64 ee]) W) := fun W => by rw [← hwx, ← hme]; exact gives_gets (f_Int x hx) W
      have hI2 : ∀ W, Calls Tryz.prog 11 #[.agg #[.int .u64 x0, .int .u64 x1, .int .u64 x2, .int .u64 x3, .int .u64 x4, .int .u64 x5, .int .u64 x6, .int .u64 x7]] W (Gets (fun _ r => r = .tuple #[.int .i64 mm, .int .i64 ee]) W) := fun W => by rw [← hwx, ← hme]; exact refInt_c hx
      obtain ⟨ss, hss⟩ : ∃ s, ordI x 0 = s := ⟨_, rfl⟩
      obtain ⟨cc, hcc⟩ : ∃ s, ordI x y = s := ⟨_, rfl⟩
      have hS1 : ∀ W, Calls Tryz.prog 12 #[.agg #[.int .u64 x0, .int .u64 x1, .int .u64 x2, .int .u64 x3, .int .u64 x4, .int .u64 x5, .int .u64 x6, .int .u64 x7]] W (Gets (fun _ r => r = .int .i64 ss) W) := fun W => by rw [← hwx, ← hss]; exact gives_gets (f_Sign x hx) W
      have hS2 : ∀ W, Calls Tryz.prog 13 #[.agg #[.int .u64 x0, .int .u64 x1, .int .u64 x2, .int .u64 x3, .int .u64 x4, .int .u64 x5, .int .u64 x6, .int .u64 x7]] W (Gets (fun _ r => r = .int .i64 ss) W) := fun W => by rw [← hwx, ← hss]; exact refSign_c hx
      have hC1 : ∀ W, Calls Tryz.prog 14 #[.agg #[.int .u64 x0, .int .u64 x1, .int .u64 x2, .int .u64 x3, .int .u64 x4, .int .u64 x5, .int .u64 x6, .int .u64 x7], .agg #[.int .u64 y0, .int .u64 y1, .int .u64 y2, .int .u64 y3, .int .u64 y4, .int .u64 y5, .int .u64 y6, .int .u64 y7]] W (Gets (fun _ r => r = .int .i64 cc) W) := fun W => by rw [← hwx, ← hwy, ← hcc]; exact gives_gets (f_Cmp x y hx hy) W
      have hC2 : ∀ W, Calls Tryz.prog 15 #[.agg #[.int .u64 x0, .int .u64 x1, .int .u64 x2, .int .u64 x3, .int .u64 x4, .int .u64 x5, .int .u64 x6, .int .u64 x7], .agg #[.int .u64 y0, .int .u64 y1, .int .u64 y2, .int .u64 y3, .int .u64 y4, .int .u64 y5, .int .u64 y6, .int .u64 y7]] W (Gets (fun _ r => r = .int .i64 cc) W) := fun W => by rw [← hwx, ← hwy, ← hcc]; exact refCmp_c hx hy
      clear hwx hwy hme hss hcc hq hown hxy
      go_wp2_with fail
      have kx := (MapKept.heap_alloc wr (.cells #[.int .u64 x0, .int .u64 x1, .int .u64 x2, .int .u64 x3, .int .u64 x4, .int .u64 x5, .int .u64 x6, .int .u64 x7, .int .u64 y0, .int .u64 y1, .int .u64 y2, .int .u64 y3, .int .u64 y4, .int .u64 y5, .int .u64 y6, .int .u64 y7] 35)).1
      have hBa : Below w7.heap.size w7 (wr.alloc (.cells #[.int .u64 x0, .int .u64 x1, .int .u64 x2, .int .u64 x3, .int .u64 x4, .int .u64 x5, .int .u64 x6, .int .u64 x7, .int .u64 y0, .int .u64 y1, .int .u64 y2, .int .u64 y3, .int .u64 y4, .int .u64 y5, .int .u64 y6, .int .u64 y7] 35)) := hB.alloc hB.size _
      clear hB h100 h101 h102 h103 h104 h105 h106 h107 h108 h109 h110 h111 h112 h113 h114 h115
      generalize wr.alloc (.cells #[.int .u64 x0, .int .u64 x1, .int .u64 x2, .int .u64 x3, .int .u64 x4, .int .u64 x5, .int .u64 x6, .int .u64 x7, .int .u64 y0, .int .u64 y1, .int .u64 y2, .int .u64 y3, .int .u64 y4, .int .u64 y5, .int .u64 y6, .int .u64 y7] 35) = wa at *
      generalize wr.heap.size = X at *
      have hXlt : X < wa.heap.size := (Array.getElem?_eq_some_iff.1 kx).1
      have allX : ∀ U, Below wa.heap.size wa U → U.cell? ⟨X, 0, none⟩ = some (.int .u64 x0) ∧ U.cell? ⟨X, 1, none⟩ = some (.int .u64 x1) ∧ U.cell? ⟨X, 2, none⟩ = some (.int .u64 x2) ∧ U.cell? ⟨X, 3, none⟩ = some (.int .u64 x3) ∧ U.cell? ⟨X, 4, none⟩ = some (.int .u64 x4) ∧ U.cell? ⟨X, 5, none⟩ = some (.int .u64 x5) ∧ U.cell? ⟨X, 6, none⟩ = some (.int .u64 x6) ∧ U.cell? ⟨X, 7, none⟩ = some (.int .u64 x7) ∧ U.cell? ⟨X, 8, none⟩ = some (.int .u64 y0) ∧ U.cell? ⟨X, 9, none⟩ = some (.int .u64 y1) ∧ U.cell? ⟨X, 10, none⟩ = some (.int .u64 y2) ∧ U.cell? ⟨X, 11, none⟩ = some (.int .u64 y3) ∧ U.cell? ⟨X, 12, none⟩ = some (.int .u64 y4) ∧ U.cell? ⟨X, 13, none⟩ = some (.int .u64 y5) ∧ U.cell? ⟨X, 14, none⟩ = some (.int .u64 y6) ∧ U.cell? ⟨X, 15, none⟩ = some (.int .u64 y7) := fun U hU => by
        have k1 := (hU.block X hXlt).trans kx
        exact ⟨(cellOf (j := 0) k1).trans rfl, (cellOf (j := 1) k1).trans rfl, (cellOf (j := 2) k1).trans rfl, (cellOf (j := 3) k1).trans rfl, (cellOf (j := 4) k1).trans rfl, (cellOf (j := 5) k1).trans rfl, (cellOf (j := 6) k1).trans rfl, (cellOf (j := 7) k1).trans rfl, (cellOf (j := 8) k1).trans rfl, (cellOf (j := 9) k1).trans rfl, (cellOf (j := 10) k1).trans rfl, (cellOf (j := 11) k1).trans rfl, (cellOf (j := 12) k1).trans rfl, (cellOf (j := 13) k1).trans rfl, (cellOf (j := 14) k1).trans rfl, (cellOf (j := 15) k1).trans rfl⟩
      with_reducible refine (hI1 _).mono ?_
      rintro e w8 ⟨r8, rfl, rfl, v8⟩
      obtain ⟨h100, h101, h102, h103, h104, h105, h106, h107, h108, h109, h110, h111, h112, h113, h114, h115⟩ := allX _ v8
      go_wp2_with fail
      with_reducible refine (hI2 _).mono ?_
      rintro e w9 ⟨r9, rfl, rfl, hb9⟩
      have v9 := next0 v8 hb9
      have v10 : Below wa.heap.size wa w9.drew := v9.drew
      clear hI1 hI2 h100 h101 h102 h103 h104 h105 h106 h107 h108 h109 h110 h111 h112 h113 h114 h115
      go_wp2
      go_region_held3 (fun w' => w'.cell? ⟨X, 0, none⟩ = some (.int .u64 x0) ∧ w'.cell? ⟨X, 1, none⟩ = some (.int .u64 x1) ∧ w'.cell? ⟨X, 2, none⟩ = some (.int .u64 x2) ∧ w'.cell? ⟨X, 3, none⟩ = some (.int .u64 x3) ∧ w'.cell? ⟨X, 4, none⟩ = some (.int .u64 x4) ∧ w'.cell? ⟨X, 5, none⟩ = some (.int .u64 x5) ∧ w'.cell? ⟨X, 6, none⟩ = some (.int .u64 x6) ∧ w'.cell? ⟨X, 7, none⟩ = some (.int .u64 x7) ∧ w'.cell? ⟨X, 8, none⟩ = some (.int .u64 y0) ∧ w'.cell? ⟨X, 9, none⟩ = some (.int .u64 y1) ∧ w'.cell? ⟨X, 10, none⟩ = some (.int .u64 y2) ∧ w'.cell? ⟨X, 11, none⟩ = some (.int .u64 y3) ∧ w'.cell? ⟨X, 12, none⟩ = some (.int .u64 y4) ∧ w'.cell? ⟨X, 13, none⟩ = some (.int .u64 y5) ∧ w'.cell? ⟨X, 14, none⟩ = some (.int .u64 y6) ∧ w'.cell? ⟨X, 15, none⟩ = some (.int .u64 y7))
        (first | exact allX _ v10 | exact allX _ v11 | exact allX _ v12 | exact allX _ v13 | exact allX _ v14)
        (first | (go_at_call 12; (with_reducible refine (hS1 _).mono ?_); rintro e w11 ⟨r11, rfl, rfl, hb11⟩; have v11 := next0 v10 hb11) | (go_at_call 13; (with_reducible refine (hS2 _).mono ?_); rintro e w12 ⟨r12, rfl, rfl, hb12⟩; have v12 := next0 v11 hb12) | (go_at_call 14; (with_reducible refine (hC1 _).mono ?_); rintro e w13 ⟨r13, rfl, rfl, hb13⟩; have v13 := next0 v12 hb13) | (go_at_call 15; (with_reducible refine (hC2 _).mono ?_); rintro e w14 ⟨r14, rfl, rfl, hb14⟩; have v14 := next0 v13 hb14))
      have hBe : Below w7.heap.size w7 w14 := hBa.trans (v14.mono hBa.size)
      clear hS1 hS2 hC1 hC2 allX v8 v9 v10 v11 v12 v13 v14 hb9 hb11 hb12 hb13 hb14 hBa kx
      go_wp2
      go_roundw
      case rel => exact ⟨k + 1, rfl, by omega, hBe⟩
      case measure => simp [intOf]; omega
    · obtain rfl : k = 7 := by omega
      go_wp2
      exact hB
end Go.Proofs.YtedhjlkidcojhaaGreat
