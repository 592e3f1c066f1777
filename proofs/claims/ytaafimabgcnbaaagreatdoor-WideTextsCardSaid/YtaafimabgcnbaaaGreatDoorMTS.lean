/-
  The law WideTexts answers true, for every two wide integers, two drafts, every text, place and octet.
-/
import Derived.Test.YtaafimabgcnbaaaGreatDoorMTR
import Derived.Test.YtaafimabgcnbaaaGreatDoorMI
set_option linter.all false
namespace Go.Proofs.YtaafimabgcnbaaaGreatDoor
open Go Go.Rx Go.RowKit Go.Big
attribute [local instance] noAv
set_option maxHeartbeats 4000000 in
set_option maxRecDepth 100000 in
theorem texts_law {w : World} {xa xb : Int} {a0 a1 a2 a3 a4 a5 a6 a7 b0 b1 b2 b3 b4 b5 b6 b7 : Int} (fa : fit xa) (fb : fit xb) (hwa : W xa = .agg #[.int .u64 a0, .int .u64 a1, .int .u64 a2, .int .u64 a3, .int .u64 a4, .int .u64 a5, .int .u64 a6, .int .u64 a7]) (hwb : W xb = .agg #[.int .u64 b0, .int .u64 b1, .int .u64 b2, .int .u64 b3, .int .u64 b4, .int .u64 b5, .int .u64 b6, .int .u64 b7])
    {cb db : Bool} {cv dv : Value} {cbits dbits : List Int} {cl dl : Int} (hC : DraftOk w cv cbits cl) (hD : DraftOk w dv dbits dl) {s : ByteArray} {a : Nat} {c : Int} (ha : a < 256)
    (htab : Lib.TabIs Tryz.prog w "internal/strconv.uint64pow10" .u64 Lib.pow10Tab) :
    Calls Tryz.prog 3 #[.agg #[.int .u64 a0, .int .u64 a1, .int .u64 a2, .int .u64 a3, .int .u64 a4, .int .u64 a5, .int .u64 a6, .int .u64 a7, .int .u64 b0, .int .u64 b1, .int .u64 b2, .int .u64 b3, .int .u64 b4, .int .u64 b5, .int .u64 b6, .int .u64 b7, .bool cb, cv, .int .u32 cl, .bool db, dv, .int .u32 dl], .string s, .int .u8 (a : Int), .int .u8 c] w (Gets (fun _ r => r = .bool true) w) := by
  have hcv := hC.row.len
  have hdv := hD.row.len
  obtain ⟨ca, cc, rfl, -⟩ := hcv
  obtain ⟨da, dc, rfl, -⟩ := hdv
  have hPairs := fun (W : World) (hB : Below w.heap.size w W) => pairs_c fa fb hwa hwb (cb := cb) (db := db) (hC.below hB) (hD.below hB)
  generalize cbits.length = cn at *
  generalize dbits.length = dn at *
  have hWorks : ∀ W, Calls Tryz.prog 4 #[] W (Gets (fun _ r => r = .bool true) W) := gives_gets g_works
  have hTab := fun (W : World) (hB : Below w.heap.size w W) => tab_below htab hB
  clear hwa hwb htab
  go_enter Tryz.func3, Tryz.ntmps3
  go_wp2_with fail
  have k0 := (MapKept.heap_alloc w (.cells #[.int .u64 a0, .int .u64 a1, .int .u64 a2, .int .u64 a3, .int .u64 a4, .int .u64 a5, .int .u64 a6, .int .u64 a7, .int .u64 b0, .int .u64 b1, .int .u64 b2, .int .u64 b3, .int .u64 b4, .int .u64 b5, .int .u64 b6, .int .u64 b7, .bool cb, .slice ca cn cc, .int .u32 cl, .bool db, .slice da dn dc, .int .u32 dl] 30)).1
  have hw1 : Below w.heap.size w (w.alloc (.cells #[.int .u64 a0, .int .u64 a1, .int .u64 a2, .int .u64 a3, .int .u64 a4, .int .u64 a5, .int .u64 a6, .int .u64 a7, .int .u64 b0, .int .u64 b1, .int .u64 b2, .int .u64 b3, .int .u64 b4, .int .u64 b5, .int .u64 b6, .int .u64 b7, .bool cb, .slice ca cn cc, .int .u32 cl, .bool db, .slice da dn dc, .int .u32 dl] 30)) := (Below.refl _ _).alloc (Nat.le_refl _) _
  generalize w.alloc (.cells #[.int .u64 a0, .int .u64 a1, .int .u64 a2, .int .u64 a3, .int .u64 a4, .int .u64 a5, .int .u64 a6, .int .u64 a7, .int .u64 b0, .int .u64 b1, .int .u64 b2, .int .u64 b3, .int .u64 b4, .int .u64 b5, .int .u64 b6, .int .u64 b7, .bool cb, .slice ca cn cc, .int .u32 cl, .bool db, .slice da dn dc, .int .u32 dl] 30) = w0 at *
  have hlt0 : w.heap.size < w0.heap.size := (Array.getElem?_eq_some_iff.1 k0).1
  with_reducible refine (hWorks _).mono ?_
  rintro e w1 ⟨r1, rfl, rfl, hb1⟩
  have hrA : ∀ W, Below w0.heap.size w0 W → W.rangeAt w.heap.size 0 [.int .u64 a0, .int .u64 a1, .int .u64 a2, .int .u64 a3, .int .u64 a4, .int .u64 a5, .int .u64 a6, .int .u64 a7, .int .u64 b0, .int .u64 b1, .int .u64 b2, .int .u64 b3, .int .u64 b4, .int .u64 b5, .int .u64 b6, .int .u64 b7, .bool cb, .slice ca cn cc, .int .u32 cl, .bool db, .slice da dn dc, .int .u32 dl] := fun W hW j v hj => by
    have k1 := (hW.block w.heap.size hlt0).trans k0
    rw [Nat.zero_add, cellOf k1, List.getElem?_toArray]; exact hj
  have hr := hrA _ hb1
  have B1 : Below w.heap.size w w1 := hw1.trans (hb1.mono (Nat.le_of_lt hlt0))
  clear k0 hWorks
  go_wp2_with (refine wpList_load_mid rfl 30 _ rfl w.heap.size 0 (by rfl) [.int .u64 a0, .int .u64 a1, .int .u64 a2, .int .u64 a3, .int .u64 a4, .int .u64 a5, .int .u64 a6, .int .u64 a7, .int .u64 b0, .int .u64 b1, .int .u64 b2, .int .u64 b3, .int .u64 b4, .int .u64 b5, .int .u64 b6, .int .u64 b7, .bool cb, .slice ca cn cc, .int .u32 cl, .bool db, .slice da dn dc, .int .u32 dl] _ hr Tryz.underlying30 rfl (by kernel_rfl) ?_)
  with_reducible refine (hPairs _ B1).mono ?_
  rintro e w2 ⟨r2, rfl, ⟨ps, hps, hpl, hown⟩, hb2⟩
  obtain ⟨g, cap, rfl, hg0, hg1⟩ := hown.form (by decide)
  have B2 : Below w.heap.size w w2 := B1.trans (hb2.mono B1.size)
  have ht2 := hTab _ B2
  clear hr hb1 hb2 B1 hPairs hTab hrA
  go_wp2
  refine texts_loop hps hpl hown ha ht2 _ _ _ _ _ _ _ _ _ _ _ _ _ _ _ _ _ _ _ _ _ _ _ _ _ _ _ _ _ _ _ _ _ _ _ _ _ _ _ _ _ _ _ _ _ _ _ _ _ _ _ _ _ _ _ _ _ _ _ _ _ _ _ _ _ _ _ _ _ _ _ _ _ _ _ _ _ _ _ _ _ (fun r8 r10 r11 r12 r14 r15 r16 r17 r18 r25 r26 r27 r28 r29 r30 r31 r32 r33 r34 r35 r36 r37 r38 r39 r40 r41 r42 r43 r44 r45 r46 r47 r48 r49 r50 r51 r52 r53 r54 r55 r56 r57 r58 r59 r60 r61 r62 r63 r64 r65 r66 r67 r68 r69 r70 r71 r72 r73 r74 r75 r76 r77 r78 r79 r80 r81 r82 r83 r84 r85 W hB => ?_)
  have hfin : Below w.heap.size w W := B2.trans (hB.mono B2.size)
  clear hps hpl hown hB B2 ht2 hg0 hg1
  go_wp2
  go_ret
  exact ⟨_, rfl, rfl, hfin⟩
end Go.Proofs.YtaafimabgcnbaaaGreatDoor
