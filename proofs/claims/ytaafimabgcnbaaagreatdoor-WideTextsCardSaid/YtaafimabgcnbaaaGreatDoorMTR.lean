/-
  The law WideTexts: the loop over the pairs.
-/
import Derived.Test.YtaafimabgcnbaaaGreatDoorMT4
import Derived.Test.YtaafimabgcnbaaaGreatDoorMLE
set_option linter.all false
namespace Go.Proofs.YtaafimabgcnbaaaGreatDoor
open Go Go.Rx Go.RowKit Go.Big
attribute [local instance] noAv
/-- The cells of a pair in a row of six. -/
theorem pair_cells6 {U : World} {base g cap : Nat} {qs : List (Int × Int)} {k : Nat} {x y : Int} {x0 x1 x2 x3 x4 x5 x6 x7 y0 y1 y2 y3 y4 y5 y6 y7 : Int} (hown : U.ownsRow base 34 16 (.slice (some ⟨g, 0, none⟩) 6 cap) 6 (qs.flatMap cellsP)) (hl : qs.length = 6) (hk : k < 6) (hxy : qs.getD k (0, 0) = (x, y))
    (hx : W x = .agg #[.int .u64 x0, .int .u64 x1, .int .u64 x2, .int .u64 x3, .int .u64 x4, .int .u64 x5, .int .u64 x6, .int .u64 x7]) (hy : W y = .agg #[.int .u64 y0, .int .u64 y1, .int .u64 y2, .int .u64 y3, .int .u64 y4, .int .u64 y5, .int .u64 y6, .int .u64 y7]) : U.cell? ⟨g, k * 16, none⟩ = some (.int .u64 x0) ∧ U.cell? ⟨g, k * 16 + 1, none⟩ = some (.int .u64 x1) ∧ U.cell? ⟨g, k * 16 + 2, none⟩ = some (.int .u64 x2) ∧ U.cell? ⟨g, k * 16 + 3, none⟩ = some (.int .u64 x3) ∧ U.cell? ⟨g, k * 16 + 4, none⟩ = some (.int .u64 x4) ∧ U.cell? ⟨g, k * 16 + 5, none⟩ = some (.int .u64 x5) ∧ U.cell? ⟨g, k * 16 + 6, none⟩ = some (.int .u64 x6) ∧ U.cell? ⟨g, k * 16 + 7, none⟩ = some (.int .u64 x7) ∧ U.cell? ⟨g, k * 16 + 8, none⟩ = some (.int .u64 y0) ∧ U.cell? ⟨g, k * 16 + 9, none⟩ = some (.int .u64 y1) ∧ U.cell? ⟨g, k * 16 + 10, none⟩ = some (.int .u64 y2) ∧ U.cell? ⟨g, k * 16 + 11, none⟩ = some (.int .u64 y3) ∧ U.cell? ⟨g, k * 16 + 12, none⟩ = some (.int .u64 y4) ∧ U.cell? ⟨g, k * 16 + 13, none⟩ = some (.int .u64 y5) ∧ U.cell? ⟨g, k * 16 + 14, none⟩ = some (.int .u64 y6) ∧ U.cell? ⟨g, k * 16 + 15, none⟩ = some (.int .u64 y7) := by
  have hc : ∀ i, i < 16 → U.cell? ⟨g, k * 16 + i, none⟩ = (cellsP (x, y))[i]? := fun i hi => by
    rw [hown.cellAt _ (by omega), flat_get qs k i (by omega) hi, hxy]
  have e : cellsP (x, y) = [.int .u64 x0, .int .u64 x1, .int .u64 x2, .int .u64 x3, .int .u64 x4, .int .u64 x5, .int .u64 x6, .int .u64 x7, .int .u64 y0, .int .u64 y1, .int .u64 y2, .int .u64 y3, .int .u64 y4, .int .u64 y5, .int .u64 y6, .int .u64 y7] := by unfold cellsP; rw [W8_of hx, W8_of hy]; rfl
  rw [e] at hc
  exact ⟨(hc 0 (by decide)).trans rfl, (hc 1 (by decide)).trans rfl, (hc 2 (by decide)).trans rfl, (hc 3 (by decide)).trans rfl, (hc 4 (by decide)).trans rfl, (hc 5 (by decide)).trans rfl, (hc 6 (by decide)).trans rfl, (hc 7 (by decide)).trans rfl, (hc 8 (by decide)).trans rfl, (hc 9 (by decide)).trans rfl, (hc 10 (by decide)).trans rfl, (hc 11 (by decide)).trans rfl, (hc 12 (by decide)).trans rfl, (hc 13 (by decide)).trans rfl, (hc 14 (by decide)).trans rfl, (hc 15 (by decide)).trans rfl⟩
theorem fit_smallT {x : Int} (hx : fit x) : small x := by
  have h : (6703903964971298549787012499102923063739682910296196688861780721860882015036773488400937149083451713845015929093243025426876941405973284973216824503042048 : Int) < pw 64 := by decide +kernel
  unfold fit P511 at hx; unfold small; omega
theorem told_of {x : Int} (hx : fit x) : ∃ told : ByteArray, told.size ≤ 1000 ∧ (⟨(Lib.itoa x).toArray⟩ : ByteArray) = told := by
  refine ⟨_, ?_, rfl⟩
  rw [size_mk]
  have h := mag_digits (abs_fits hx)
  unfold Lib.itoa
  split
  · rw [List.length_cons]; omega
  · rename_i h0
    rw [show x.toNat = x.natAbs by omega]; omega
noncomputable def textsL : Code := ((Tryz.f3.body.bind findL).getD .skip)
set_option maxHeartbeats 8000000 in
set_option maxRecDepth 100000 in
theorem texts_loop {w7 : World} {base g cap a : Nat} {c : Int} {s : ByteArray} {qs : List (Int × Int)} (hq : ∀ p ∈ qs, fit p.1 ∧ fit p.2) (hl : qs.length = 6) (hown : w7.ownsRow base 34 16 (.slice (some ⟨g, 0, none⟩) 6 cap) 6 (qs.flatMap cellsP)) (ha : a < 256)
    (htab : Lib.TabIs Tryz.prog w7 "internal/strconv.uint64pow10" .u64 Lib.pow10Tab)
    (c0 c4 c5 c6 c7 c9 c13 c19 c20 c21 u8 u10 u11 u12 u14 u15 u16 u17 u18 u25 u26 u27 u28 u29 u30 u31 u32 u33 u34 u35 u36 u37 u38 u39 u40 u41 u42 u43 u44 u45 u46 u47 u48 u49 u50 u51 u52 u53 u54 u55 u56 u57 u58 u59 u60 u61 u62 u63 u64 u65 u66 u67 u68 u69 u70 u71 u72 u73 u74 u75 u76 u77 u78 u79 u80 u81 u82 u83 u84 u85 : Value) (Q : Exit → Act → World → Prop)
    (hQ : ∀ (u8 u10 u11 u12 u14 u15 u16 u17 u18 u25 u26 u27 u28 u29 u30 u31 u32 u33 u34 u35 u36 u37 u38 u39 u40 u41 u42 u43 u44 u45 u46 u47 u48 u49 u50 u51 u52 u53 u54 u55 u56 u57 u58 u59 u60 u61 u62 u63 u64 u65 u66 u67 u68 u69 u70 u71 u72 u73 u74 u75 u76 u77 u78 u79 u80 u81 u82 u83 u84 u85 : Value) (W : World), Below w7.heap.size w7 W → Q (.exit 0) ⟨(List.toArray (c0 :: (.string s) :: (.int .u8 (a : Int)) :: (.int .u8 c) :: c4 :: c5 :: c6 :: c7 :: u8 :: c9 :: u10 :: u11 :: u12 :: c13 :: u14 :: u15 :: u16 :: u17 :: u18 :: c19 :: c20 :: c21 :: (.slice (some ⟨g, 0, none⟩) 6 cap) :: (.int .i64 6) :: (.int .i64 6) :: u25 :: u26 :: u27 :: u28 :: u29 :: u30 :: u31 :: u32 :: u33 :: u34 :: u35 :: u36 :: u37 :: u38 :: u39 :: u40 :: u41 :: u42 :: u43 :: u44 :: u45 :: u46 :: u47 :: u48 :: u49 :: u50 :: u51 :: u52 :: u53 :: u54 :: u55 :: u56 :: u57 :: u58 :: u59 :: u60 :: u61 :: u62 :: u63 :: u64 :: u65 :: u66 :: u67 :: u68 :: u69 :: u70 :: u71 :: u72 :: u73 :: u74 :: u75 :: u76 :: u77 :: u78 :: u79 :: u80 :: u81 :: u82 :: u83 :: u84 :: u85 :: [])), []⟩ W) :
    Code.wp Tryz.prog textsL Q ⟨(List.toArray (c0 :: (.string s) :: (.int .u8 (a : Int)) :: (.int .u8 c) :: c4 :: c5 :: c6 :: c7 :: u8 :: c9 :: u10 :: u11 :: u12 :: c13 :: u14 :: u15 :: u16 :: u17 :: u18 :: c19 :: c20 :: c21 :: (.slice (some ⟨g, 0, none⟩) 6 cap) :: (.int .i64 6) :: (.int .i64 0) :: u25 :: u26 :: u27 :: u28 :: u29 :: u30 :: u31 :: u32 :: u33 :: u34 :: u35 :: u36 :: u37 :: u38 :: u39 :: u40 :: u41 :: u42 :: u43 :: u44 :: u45 :: u46 :: u47 :: u48 :: u49 :: u50 :: u51 :: u52 :: u53 :: u54 :: u55 :: u56 :: u57 :: u58 :: u59 :: u60 :: u61 :: u62 :: u63 :: u64 :: u65 :: u66 :: u67 :: u68 :: u69 :: u70 :: u71 :: u72 :: u73 :: u74 :: u75 :: u76 :: u77 :: u78 :: u79 :: u80 :: u81 :: u82 :: u83 :: u84 :: u85 :: [])), []⟩ w7 := by
  obtain ⟨g', cap', hg', -, hglt⟩ := hown.form (by decide)
  obtain ⟨rfl, rfl⟩ : g = g' ∧ cap = cap' := by injection hg' with h1 h2 h3; injection h1 with h1; injection h1 with h1; exact ⟨h1, h3⟩
  clear hg'
  conv => arg 2; whnf
  go_loopw [24] (fun i wr => ∃ k : Nat, i = .int .i64 k ∧ k ≤ 6 ∧ Below w7.heap.size w7 wr) (fun i _ => 6 - (intOf i).toNat)
  case atStart => exact ⟨0, rfl, by omega, Below.refl _ _⟩
  case round =>
    obtain ⟨k, rfl, hk, hB⟩ := hrel
    by_cases h7 : k < 6
    · obtain ⟨x, y, hxy⟩ : ∃ x y, qs.getD k (0, 0) = (x, y) := ⟨_, _, rfl⟩
      have hmem := hq _ (qs_mem (by rw [hl]; omega : k < qs.length))
      rw [hxy] at hmem
      obtain ⟨hx, hy⟩ := hmem
      obtain ⟨x0, x1, x2, x3, x4, x5, x6, x7, -, -, hwx⟩ := words_of hx
      obtain ⟨y0, y1, y2, y3, y4, y5, y6, y7, -, -, hwy⟩ := words_of hy
      obtain ⟨h100, h101, h102, h103, h104, h105, h106, h107, h108, h109, h110, h111, h112, h113, h114, h115⟩ := pair_cells6 (own_of_block hown (fun b _ hb => hB.block b hb)) hl h7 hxy hwx hwy
      obtain ⟨told, htz, htold⟩ := told_of hx
      have H0 := fun U => refText_c (w := U) hx (fit_smallT hx)
      have H1 := fun U (hU : Below w7.heap.size w7 U) => text_c (w := U) hx (tab_below htab hU)
      rw [hwx, htold] at H0 H1
      have hlen : ¬ 9223372036854775807 < told.size + 1 := by omega
      clear hwx hwy hq hown hxy hx hy htold htab
      go_wp2_with fail
      have kx := (MapKept.heap_alloc wr (.cells #[.int .u64 x0, .int .u64 x1, .int .u64 x2, .int .u64 x3, .int .u64 x4, .int .u64 x5, .int .u64 x6, .int .u64 x7, .int .u64 y0, .int .u64 y1, .int .u64 y2, .int .u64 y3, .int .u64 y4, .int .u64 y5, .int .u64 y6, .int .u64 y7] 34)).1
      have hBa : Below w7.heap.size w7 (wr.alloc (.cells #[.int .u64 x0, .int .u64 x1, .int .u64 x2, .int .u64 x3, .int .u64 x4, .int .u64 x5, .int .u64 x6, .int .u64 x7, .int .u64 y0, .int .u64 y1, .int .u64 y2, .int .u64 y3, .int .u64 y4, .int .u64 y5, .int .u64 y6, .int .u64 y7] 34)) := hB.alloc hB.size _
      clear hB h100 h101 h102 h103 h104 h105 h106 h107 h108 h109 h110 h111 h112 h113 h114 h115
      generalize wr.alloc (.cells #[.int .u64 x0, .int .u64 x1, .int .u64 x2, .int .u64 x3, .int .u64 x4, .int .u64 x5, .int .u64 x6, .int .u64 x7, .int .u64 y0, .int .u64 y1, .int .u64 y2, .int .u64 y3, .int .u64 y4, .int .u64 y5, .int .u64 y6, .int .u64 y7] 34) = wa at *
      generalize wr.heap.size = X at *
      have hXlt : X < wa.heap.size := (Array.getElem?_eq_some_iff.1 kx).1
      with_reducible refine (H0 _).mono ?_
      rintro e v0 ⟨r, rfl, rfl, hb0⟩
      have z0 : Below w7.heap.size w7 v0 := next0 hBa hb0
      have kx0 := (hb0.block X hXlt).trans kx
      obtain ⟨h100, h101, h102, h103, h104, h105, h106, h107⟩ : v0.cell? ⟨X, 0, none⟩ = some (.int .u64 x0) ∧ v0.cell? ⟨X, 1, none⟩ = some (.int .u64 x1) ∧ v0.cell? ⟨X, 2, none⟩ = some (.int .u64 x2) ∧ v0.cell? ⟨X, 3, none⟩ = some (.int .u64 x3) ∧ v0.cell? ⟨X, 4, none⟩ = some (.int .u64 x4) ∧ v0.cell? ⟨X, 5, none⟩ = some (.int .u64 x5) ∧ v0.cell? ⟨X, 6, none⟩ = some (.int .u64 x6) ∧ v0.cell? ⟨X, 7, none⟩ = some (.int .u64 x7) := ⟨(cellOf (j := 0) kx0).trans rfl, (cellOf (j := 1) kx0).trans rfl, (cellOf (j := 2) kx0).trans rfl, (cellOf (j := 3) kx0).trans rfl, (cellOf (j := 4) kx0).trans rfl, (cellOf (j := 5) kx0).trans rfl, (cellOf (j := 6) kx0).trans rfl, (cellOf (j := 7) kx0).trans rfl⟩
      have H2 := H1 _ z0
      clear H0 H1 kx hBa hb0 kx0
      go_wp2_with fail
      clear h100 h101 h102 h103 h104 h105 h106 h107
      with_reducible refine H2.mono ?_
      rintro e v1 ⟨r, rfl, rfl, hb1⟩
      have z1 : Below w7.heap.size w7 v1 := next0 z0 hb1
      have q0 : (0 : Int) ≤ (a : Int) := by omega
      have q1 : (a : Int) < 256 := by omega
      have q2 : (0 : Int) < (told.size : Int) + 1 := by omega
      clear z0 hb1 H2
      go_wp2
      have hm : ((a : Int) % ((told.size : Int) + 1)) = ((a % (told.size + 1) : Nat) : Int) := by rw [Int.natCast_emod]; rfl
      have hmle : a % (told.size + 1) ≤ told.size := by have := Nat.mod_lt a (show 0 < told.size + 1 by omega); omega
      rw [hm]
      generalize a % (told.size + 1) = m at *
      clear hm q0 q1 q2 hlen
      refine texts_r10 hmle htz _ _ _ _ _ _ _ _ _ _ _ _ _ _ _ _ _ _ _ _ _ _ _ _ _ _ _ _ _ _ _ _ _ _ _ _ _ _ _ _ _ _ _ _ _ _ _ _ _ _ _ _ _ _ _ _ _ _ _ _ _ _ _ _ _ _ _ _ _ _ _ _ _ _ _ _ _ _ _ _ _ _ _ (fun t1 t2 t3 t4 v42 v43 v44 v45 v46 v47 v48 v49 v50 v51 v52 v53 v54 v55 v56 v57 v58 v59 v60 v61 W s1 s2 s3 s4 hb => ?_)
      have z2 : Below w7.heap.size w7 W := next0 z1 hb
      clear z1 hb hmle htz
      go_wp2
      refine texts_inner s1 s2 s3 s4 _ _ _ _ _ _ _ _ _ _ _ _ _ _ _ _ _ _ _ _ _ _ _ _ _ _ _ _ _ _ _ _ _ _ _ _ _ _ _ _ _ _ _ _ _ _ _ _ _ _ _ _ _ _ _ _ _ _ _ _ _ _ _ _ _ _ _ _ _ _ _ _ _ _ _ _ _ _ _ _ _ _ _ _ _ (fun r8 r14 r15 r16 r17 r18 r64 r65 r66 r67 r68 r69 r70 r71 r72 r73 r74 r75 r76 r77 r78 r79 r80 r81 r82 r83 r84 W' hb => ?_)
      have z3 : Below w7.heap.size w7 W' := next0 z2 hb
      clear z2 hb s1 s2 s3 s4
      go_wp2
      go_roundw
      case rel => exact ⟨k + 1, rfl, by omega, z3⟩
      case measure => simp [intOf]; omega
    · obtain rfl : k = 6 := by omega
      go_wp2
      exact hB
end Go.Proofs.YtaafimabgcnbaaaGreatDoor
