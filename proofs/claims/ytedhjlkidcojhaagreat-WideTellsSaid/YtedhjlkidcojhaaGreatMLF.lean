/-
  The law WideTells answers true, for every two wide integers, two drafts and every integer.
-/
import Derived.Test.YtedhjlkidcojhaaGreatMLFb
set_option linter.all false
namespace Go.Proofs.YtedhjlkidcojhaaGreat
open Go Go.Rx Go.RowKit Go.Big
attribute [local instance] noAv
set_option maxHeartbeats 4000000 in
set_option maxRecDepth 100000 in
theorem tells_c {w : World} {xa xb : Int} {a0 a1 a2 a3 a4 a5 a6 a7 b0 b1 b2 b3 b4 b5 b6 b7 : Int} (fa : fit xa) (fb : fit xb) (hwa : W xa = .agg #[.int .u64 a0, .int .u64 a1, .int .u64 a2, .int .u64 a3, .int .u64 a4, .int .u64 a5, .int .u64 a6, .int .u64 a7]) (hwb : W xb = .agg #[.int .u64 b0, .int .u64 b1, .int .u64 b2, .int .u64 b3, .int .u64 b4, .int .u64 b5, .int .u64 b6, .int .u64 b7])
    {cb db : Bool} {cv dv : Value} {cbits dbits : List Int} {cl dl : Int} (hC : DraftOk w cv cbits cl) (hD : DraftOk w dv dbits dl) (n : Int) (hn0 : -9223372036854775808 ≤ n) (hn1 : n ≤ 9223372036854775807) :
    Calls Tryz.prog 3 #[.agg #[.int .u64 a0, .int .u64 a1, .int .u64 a2, .int .u64 a3, .int .u64 a4, .int .u64 a5, .int .u64 a6, .int .u64 a7, .int .u64 b0, .int .u64 b1, .int .u64 b2, .int .u64 b3, .int .u64 b4, .int .u64 b5, .int .u64 b6, .int .u64 b7, .bool cb, cv, .int .u32 cl, .bool db, dv, .int .u32 dl], .int .i64 n] w (Gets (fun _ r => r = .bool true) w) := by
  have hcv := hC.row.len
  have hdv := hD.row.len
  obtain ⟨ca, cc, rfl, -⟩ := hcv
  obtain ⟨da, dc, rfl, -⟩ := hdv
  have hPairs := fun (W : World) (hB : Below w.heap.size w W) => pairs_c fa fb hwa hwb (cb := cb) (db := db) (hC.below hB) (hD.below hB)
  generalize cbits.length = cn at *
  generalize dbits.length = dn at *
  have fN : fit n := fit_i64 hn0 hn1
  obtain ⟨o0, o1, o2, o3, o4, o5, o6, o7, -, -, hwo⟩ := words_of fN
  have hm : -9223372036854775808 ≤ IntKind.i64.wrap (-n) ∧ IntKind.i64.wrap (-n) ≤ 9223372036854775807 := by rw [IntKind.wrap_i64]; omega
  have fM : fit (IntKind.i64.wrap (-n)) := fit_i64 hm.1 hm.2
  obtain ⟨m0, m1, m2, m3, m4, m5, m6, m7, -, -, hwm⟩ := words_of fM
  have hOf : ∀ W, Calls Tryz.prog 7 #[.int .i64 n] W (Gets (fun _ r => r = .agg #[.int .u64 o0, .int .u64 o1, .int .u64 o2, .int .u64 o3, .int .u64 o4, .int .u64 o5, .int .u64 o6, .int .u64 o7]) W) := fun W => by rw [← hwo]; exact gives_gets (f_Of n hn0 hn1) W
  have hRef : ∀ W, Calls Tryz.prog 8 #[.int .i64 n] W (Gets (fun _ r => r = .agg #[.int .u64 o0, .int .u64 o1, .int .u64 o2, .int .u64 o3, .int .u64 o4, .int .u64 o5, .int .u64 o6, .int .u64 o7]) W) := fun W => by rw [← hwo]; exact refOf_c n hn0 hn1
  have hRefM : ∀ W, Calls Tryz.prog 8 #[.int .i64 (IntKind.i64.wrap (-n))] W (Gets (fun _ r => r = .agg #[.int .u64 m0, .int .u64 m1, .int .u64 m2, .int .u64 m3, .int .u64 m4, .int .u64 m5, .int .u64 m6, .int .u64 m7]) W) := fun W => by rw [← hwm]; exact refOf_c _ hm.1 hm.2
  have hWorks : ∀ W, Calls Tryz.prog 6 #[] W (Gets (fun _ r => r = .bool true) W) := gives_gets g_works
  have HO := Lib.hid hwo
  have HM := Lib.hid hwm
  clear hwo hwm hwa hwb
  go_enter Tryz.func3, Tryz.ntmps3
  go_wp2_with fail
  have k0 := (MapKept.heap_alloc w (.cells #[.int .u64 a0, .int .u64 a1, .int .u64 a2, .int .u64 a3, .int .u64 a4, .int .u64 a5, .int .u64 a6, .int .u64 a7, .int .u64 b0, .int .u64 b1, .int .u64 b2, .int .u64 b3, .int .u64 b4, .int .u64 b5, .int .u64 b6, .int .u64 b7, .bool cb, .slice ca cn cc, .int .u32 cl, .bool db, .slice da dn dc, .int .u32 dl] 30)).1
  have hw1 : Below w.heap.size w (w.alloc (.cells #[.int .u64 a0, .int .u64 a1, .int .u64 a2, .int .u64 a3, .int .u64 a4, .int .u64 a5, .int .u64 a6, .int .u64 a7, .int .u64 b0, .int .u64 b1, .int .u64 b2, .int .u64 b3, .int .u64 b4, .int .u64 b5, .int .u64 b6, .int .u64 b7, .bool cb, .slice ca cn cc, .int .u32 cl, .bool db, .slice da dn dc, .int .u32 dl] 30)) := (Below.refl _ _).alloc (Nat.le_refl _) _
  generalize w.alloc (.cells #[.int .u64 a0, .int .u64 a1, .int .u64 a2, .int .u64 a3, .int .u64 a4, .int .u64 a5, .int .u64 a6, .int .u64 a7, .int .u64 b0, .int .u64 b1, .int .u64 b2, .int .u64 b3, .int .u64 b4, .int .u64 b5, .int .u64 b6, .int .u64 b7, .bool cb, .slice ca cn cc, .int .u32 cl, .bool db, .slice da dn dc, .int .u32 dl] 30) = w0 at *
  have hlt0 : w.heap.size < w0.heap.size := (Array.getElem?_eq_some_iff.1 k0).1
  with_reducible refine (hWorks _).mono ?_
  rintro e w1 ⟨r1, rfl, rfl, hb1⟩
  go_wp2_with fail
  with_reducible refine (hOf _).mono ?_
  rintro e w2 ⟨r2, rfl, rfl, hb2⟩
  have bel2 : Below w0.heap.size w0 w2 := next0 hb1 hb2
  clear hOf hWorks hb1 hb2
  go_wp2
  have kt := (MapKept.heap_alloc w2 (.cells #[.int .u64 o0, .int .u64 o1, .int .u64 o2, .int .u64 o3, .int .u64 o4, .int .u64 o5, .int .u64 o6, .int .u64 o7] 24)).1
  have bel3 : Below w0.heap.size w0 (w2.alloc (.cells #[.int .u64 o0, .int .u64 o1, .int .u64 o2, .int .u64 o3, .int .u64 o4, .int .u64 o5, .int .u64 o6, .int .u64 o7] 24)) := bel2.alloc bel2.size _
  have hT := bel2.size
  clear bel2
  generalize w2.alloc (.cells #[.int .u64 o0, .int .u64 o1, .int .u64 o2, .int .u64 o3, .int .u64 o4, .int .u64 o5, .int .u64 o6, .int .u64 o7] 24) = w3 at *
  generalize w2.heap.size = T at *
  have hTlt : T < w3.heap.size := (Array.getElem?_eq_some_iff.1 kt).1
  have y0 : Below w3.heap.size w3 w3.drew := (Below.refl _ _).drew
  have heqo := eq8_same o0 o1 o2 o3 o4 o5 o6 o7
  have all8 : ∀ W, Below w3.heap.size w3 W → W.cell? ⟨T, 0, none⟩ = some (.int .u64 o0) ∧ W.cell? ⟨T, 1, none⟩ = some (.int .u64 o1) ∧ W.cell? ⟨T, 2, none⟩ = some (.int .u64 o2) ∧ W.cell? ⟨T, 3, none⟩ = some (.int .u64 o3) ∧ W.cell? ⟨T, 4, none⟩ = some (.int .u64 o4) ∧ W.cell? ⟨T, 5, none⟩ = some (.int .u64 o5) ∧ W.cell? ⟨T, 6, none⟩ = some (.int .u64 o6) ∧ W.cell? ⟨T, 7, none⟩ = some (.int .u64 o7) := fun W hW => by
    have k1 := (hW.block T hTlt).trans kt
    exact ⟨(cellOf (j := 0) k1).trans rfl, (cellOf (j := 1) k1).trans rfl, (cellOf (j := 2) k1).trans rfl, (cellOf (j := 3) k1).trans rfl, (cellOf (j := 4) k1).trans rfl, (cellOf (j := 5) k1).trans rfl, (cellOf (j := 6) k1).trans rfl, (cellOf (j := 7) k1).trans rfl⟩
  have bw : ∀ W, Below w3.heap.size w3 W → Below w.heap.size w W := fun W hW => hw1.trans ((bel3.mono (Nat.le_of_lt hlt0)).trans (hW.mono (by have := bel3.size; omega)))
  go_region_held3 (fun w' => w'.cell? ⟨T, 0, none⟩ = some (.int .u64 o0) ∧ w'.cell? ⟨T, 1, none⟩ = some (.int .u64 o1) ∧ w'.cell? ⟨T, 2, none⟩ = some (.int .u64 o2) ∧ w'.cell? ⟨T, 3, none⟩ = some (.int .u64 o3) ∧ w'.cell? ⟨T, 4, none⟩ = some (.int .u64 o4) ∧ w'.cell? ⟨T, 5, none⟩ = some (.int .u64 o5) ∧ w'.cell? ⟨T, 6, none⟩ = some (.int .u64 o6) ∧ w'.cell? ⟨T, 7, none⟩ = some (.int .u64 o7))
    (first | exact all8 _ y0 | exact all8 _ y1)
    (first | (go_at_call 8; (with_reducible refine (hRef _).mono ?_); rintro e w4 ⟨r4, rfl, rfl, hb4⟩; have y1 := next0 y0 hb4))
  go_wp2
  refine tells_r6 fN fM HO.out HM.out k0 kt bel3 hlt0 y1 (fun W hW => hPairs W (bw W hW)) hRefM _ _ (fun g7 cap7 w7 qs u20 u21 u22 u23 u24 u25 u26 u27 hqs hl7 hown8 y5 => ?_)
  have Y5 := bw _ y5
  clear y0 y1 y5 all8 bw hPairs hRef hRefM heqo kt bel3 k0 hw1 hb4
  go_wp2
  refine tells_loop hqs hl7 hown8 _ _ _ _ _ _ _ _ _ _ _ _ _ _ _ _ _ _ _ _ _ _ _ _ _ _ _ _ _ _ _ _ _ _ _ _ _ _ _ _ _ _ _ _ _ _ _ _ _ _ _ _ _ _ _ _ _ _ _ _ _ _ _ _ _ _ _ _ _ _ _ _ _ _ _ (fun u4 u7 u8 u9 u10 u11 u31 u32 u33 u34 u35 u36 u37 u38 u39 u40 u41 u42 u43 u44 u45 u46 u47 u48 u49 u50 u51 u52 u53 u54 u55 u56 u57 u58 u59 u60 u61 u62 u63 u64 u65 u66 u67 u68 u69 u70 u71 u72 u73 u74 u75 u76 W hB => ?_)
  have hfin : Below w.heap.size w W := Y5.trans (hB.mono Y5.size)
  clear hqs hl7 hown8 hB Y5
  go_wp2
  go_ret
  exact ⟨_, rfl, rfl, hfin⟩
end Go.Proofs.YtedhjlkidcojhaaGreat
