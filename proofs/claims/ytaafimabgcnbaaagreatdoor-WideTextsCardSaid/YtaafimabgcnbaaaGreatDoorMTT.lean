/-
  For every two wide integers, two drafts, every text, place and octet, Text and Parse of package wide agree with the reference: the law WideTexts answers true. No condition but that the tables of the library of Go hold what its text lays.
-/
import Derived.Test.YtaafimabgcnbaaaGreatDoorMTS
import Derived.Test.YtaafimabgcnbaaaGreatDoorMLG
import Derived.Test.YtaafimabgcnbaaaGreatDoorMJ
import Derived.Test.YtaafimabgcnbaaaGreatDoorTie
import Derived.Test.YtaafimabgcnbaaaGreatDoorCards
import Derived.Stop.LaidErr
import Derived.LaidMore
import Derived.SevenTiedAt
set_option linter.all false
namespace Go.Proofs.YtaafimabgcnbaaaGreatDoor
open Go Go.Rx Go.RowKit Go.Big
open Go.ChangeShapes Go.WideShapes Go.ChangeAt
set_option maxRecDepth 100000 in
theorem octet_arg {U : World} {bb : Nat} {v : Value} (hv : Value.okWide Tryz.prog U .any bb 5 v) : ∃ n : Nat, n < 256 ∧ v = .int .u8 (n : Int) := by
  have e1 : IntKind.u8.min = 0 := by decide
  have e2 : IntKind.u8.max = 255 := by decide
  have hv' : Cell.ok Tryz.prog U .any bb 5 v := by simpa only [Value.okWide, Cell.okWide, Tryz.underlying5] using hv
  unfold Cell.ok at hv'
  rw [Tryz.underlying5] at hv'
  cases v with
  | int k n =>
    obtain ⟨rfl, h1, h2⟩ := hv'
    rw [e1] at h1; rw [e2] at h2
    exact ⟨n.toNat, by omega, by rw [Int.toNat_of_nonneg h1]⟩
  | _ => exact hv'.elim
set_option maxRecDepth 100000 in
theorem text_arg {U : World} {bb : Nat} {v : Value} (hv : Value.okWide Tryz.prog U .any bb 9 v) : ∃ s : ByteArray, v = .string s := by
  have hv' : Cell.ok Tryz.prog U .any bb 9 v := by simpa only [Value.okWide, Cell.okWide, Tryz.underlying9] using hv
  unfold Cell.ok at hv'
  rw [Tryz.underlying9] at hv'
  cases v with
  | string s => exact ⟨s, rfl⟩
  | _ => exact hv'.elim
set_option maxRecDepth 100000 in
theorem tab_of_laid {U : World} (h : laidMetH Tryz.prog Rows.wideTextsRow.laid U) : Lib.TabIs Tryz.prog U "internal/strconv.uint64pow10" .u64 Lib.pow10Tab := by
  rw [MakeChecks.laidMetH_plain _ _ _ (by kernel_rfl)] at h
  exact Lib.tabIs_of_head (g := 2) (by kernel_rfl) (by kernel_rfl) Tryz.underlying162 Tryz.underlying22 (by kernel_rfl) (by kernel_rfl) (laidMet.tail (laidMet.tail h))
theorem door_met (os : Os) (args : Array Value) : laidMetH Tryz.prog Rows.wideTextsRow.laid ((World.doorLaid Tryz.prog 24 os).forCall (fun _ _ => 0) ⟨#[], args, []⟩).memory :=
  laidMetH_of_parts3 (fuel := 8) (laidMet_of_run' 8 (by kernel_rfl) (by kernel_rfl)) (by kernel_rfl) (by kernel_rfl)
set_option maxRecDepth 100000 in
theorem texts_lifted (os : Os) (started : os.Started) (H : Type) (enc : TypeId × Value → H) :
    ReturnsInHanded {} Tryz.checked os 3 .any (fun w args => (Rows.wideTextsSpec.pre enc Tryz.prog Tryz.f3 [] false w args ∧ laidMetH Tryz.prog Rows.wideTextsRow.laid w) ∧ sizedMet enc Tryz.prog Tryz.f3 (OpenSpec.ofChange Rows.wideTextsSpec) false w args)
      (Rows.wideTextsSpec.post enc Tryz.prog Tryz.f3 false true false false) := by
  refine returnsInHanded_of_change_and (C := Tryz.checked) (X := fun w _ => laidMetH Tryz.prog Rows.wideTextsRow.laid w) (fun _ _ _ hh h => h.of_heap hh) own started (by kernel_rfl) Tryz.func3
    (ChangeSpec.witness_shaped (enc := enc) (C := Tryz.checked) (os := os) (X := fun w _ => laidMetH Tryz.prog Rows.wideTextsRow.laid w) false (World.doorLaid Tryz.prog 24 os) #[.agg #[.int .u64 0, .int .u64 0, .int .u64 0, .int .u64 0, .int .u64 0, .int .u64 0, .int .u64 0, .int .u64 0, .int .u64 0, .int .u64 0, .int .u64 0, .int .u64 0, .int .u64 0, .int .u64 0, .int .u64 0, .int .u64 0, .bool false, .slice none 0 0, .int .u32 0, .bool false, .slice none 0 0, .int .u32 0], .string ⟨#[]⟩, .int .u8 0, .int .u8 0] 8 rfl (World.shaped_of_RefB (by kernel_rfl) (by kernel_rfl)) (by kernel_rfl) (by kernel_rfl) (by kernel_rfl) (door_met os _)) ?_
  intro U base args ds gs before hval0 hW _ _ hL _
  have hval : ∀ (j : Nat) t v, Tryz.f3.params[j]? = some t → args[j]? = some v → Value.okWide Tryz.prog U .any base t v := hval0
  have hW' := hW
  obtain ⟨p, q, hA0, hV, rfl, hfz, hnd⟩ := hW
  have hA : DataW.TrodAll enc Tryz.prog U 0 (fun _ => true) true Tryz.f3.params.toList args.toList ds p := hA0
  rw [Tryz.params3] at hA hval
  obtain ⟨v0, vs, d0, ds', p0, q0, hargs, rfl, rfl, h0, hA1⟩ := trodAll_cons hA
  obtain ⟨v1, vs1, d1, ds1, p1, q1, rfl, rfl, rfl, h1, hA2⟩ := trodAll_cons hA1
  obtain ⟨v2, vs2, d2, ds2, p2, q2, rfl, rfl, rfl, h2, hA3⟩ := trodAll_cons hA2
  obtain ⟨v3, vs3, d3, ds3, p3, q3, rfl, rfl, rfl, h3, hA4⟩ := trodAll_cons hA3
  obtain ⟨rfl, rfl, rfl⟩ := trodAll_nil hA4
  obtain ⟨args⟩ := args
  simp only at hargs
  subst hargs
  obtain ⟨rfl, rfl⟩ := trodVars_none hV
  have h0' := h0
  have h1' := h1
  have h2' := h2
  have h3' := h3
  obtain ⟨m0, t0⟩ := h0'
  obtain ⟨m1, t1⟩ := h1'
  obtain ⟨m2, t2⟩ := h2'
  obtain ⟨m3, t3⟩ := h3'
  obtain ⟨xa, xb, a0, a1, a2, a3, a4, a5, a6, a7, b0, b1, b2, b3, b4, b5, b6, b7, cb, db, cv, dv, cbits, dbits, cl, dl, fa, fb, ea, eb, hC, hD, rfl⟩ := two_arg (hval 0 30 v0 rfl rfl) t0
  obtain ⟨s, rfl⟩ := text_arg (hval 1 9 v1 rfl rfl)
  obtain ⟨a, ha, rfl⟩ := octet_arg (hval 2 5 v2 rfl rfl)
  obtain ⟨c, hc, rfl⟩ := octet_arg (hval 3 5 v3 rfl rfl)
  have lt0 : ∀ x ∈ p0, x.block < U.heap.size := DataW.trod_lt m0 _ _ _ t0
  have lt1 : ∀ x ∈ p1, x.block < U.heap.size := DataW.trod_lt m1 _ _ _ t1
  have lt2 : ∀ x ∈ p2, x.block < U.heap.size := DataW.trod_lt m2 _ _ _ t2
  have lt3 : ∀ x ∈ p3, x.block < U.heap.size := DataW.trod_lt m3 _ _ _ t3
  clear hA0 hval0
  refine (texts_law (w := U) fa fb ea eb hC hD (s := s) (c := (c : Int)) ha (tab_of_laid hL)).mono fun e W' he => ?_
  obtain ⟨r, rfl, rfl, bel⟩ := he
  exact ⟨_, rfl, _, _, _, [], _, [], hW', trodAll_mk1 (shut_bool Tryz.underlying4 _), trodAll_cons_mk (Below.trod laidOut (by kernel_rfl) (of_decide_eq_true (by kernel_rfl)) h0 bel lt0) (trodAll_cons_mk (Below.trod laidOut (by kernel_rfl) (of_decide_eq_true (by kernel_rfl)) h1 bel lt1) (trodAll_cons_mk (Below.trod laidOut (by kernel_rfl) (of_decide_eq_true (by kernel_rfl)) h2 bel lt2) (trodAll_cons_mk (Below.trod laidOut (by kernel_rfl) (of_decide_eq_true (by kernel_rfl)) h3 bel lt3) trodAll_mk0))), rfl, bel.frame _, fun h => by cases h⟩
theorem texts_said : Rows.WideTextsSaid :=
  OpenClaim.holds_of_wide 3 Tryz.f3 rfl rfl rfl rfl rfl rfl rfl ⟨rfl, rfl, rfl, rfl, rfl⟩ rfl rfl rfl rfl rfl (by kernel_rfl) Tryz.func3 (by kernel_rfl)
    (of_decide_eq_true (by kernel_rfl)) (by unfold Func.isWrapper; first | (rw [if_pos (by decide +kernel)]; kernel_rfl) | (rw [if_neg (by decide +kernel)]; exact ⟨rfl, rfl⟩))
    (fun os started H enc _ => texts_lifted os started H enc)
/-- The statement. -/
theorem texts_holds : Rows.WideTextsCardSaid :=
  Claim7.holds_tied_plain_at .later [] [.data, .data, .data] true (true, "b8b17a6dd99400156eecd185909a15afdc661fee788e61f38ce34d8c8fd2012f") false
    texts_said (fun _ h => by cases h) (by kernel_rfl) (fun _ h => by cases h) wideTexts_row_tie rfl ⟨rfl, rfl⟩ (by kernel_rfl) rfl
    (fun f fn hf hfn => by
      obtain rfl : f = 3 := Option.some.inj ((show Tryz.prog.funcNamed "wardmote/wardmotelaw01.WideTexts" = some 3 by kernel_rfl).symm.trans hf) |>.symm
      obtain rfl : fn = Tryz.f3 := (Option.some.inj (Tryz.func3.symm.trans hfn)).symm
      exact ⟨by kernel_rfl, fun j t ht => by
        rw [Tryz.params3] at ht
        have h3 : t = 30 ∨ t = 9 ∨ t = 5 := by
          match j, ht with
          | 0, ht => exact .inl (Option.some.inj ht).symm
          | 1, ht => exact .inr (.inl (Option.some.inj ht).symm)
          | 2, ht => exact .inr (.inr (Option.some.inj ht).symm)
          | 3, ht => exact .inr (.inr (Option.some.inj ht).symm)
          | j + 4, ht => cases ht
        rcases h3 with rfl | rfl | rfl
        · exact (show Tryz.prog.wantsStandIn 30 = false by kernel_rfl)
        · exact (show Tryz.prog.wantsStandIn 9 = false by kernel_rfl)
        · exact (show Tryz.prog.wantsStandIn 5 = false by kernel_rfl)⟩)
    (by kernel_rfl)
#print axioms texts_holds
end Go.Proofs.YtaafimabgcnbaaaGreatDoor
