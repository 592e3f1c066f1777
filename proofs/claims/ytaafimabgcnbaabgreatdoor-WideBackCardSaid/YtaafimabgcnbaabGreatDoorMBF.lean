/-
  For every wide integer, two drafts, every text and two integers: Parse inverts Text, what is parsed has that text, and comparing agrees with the difference and with integers: the law WideBack answers true. No condition but that the tables of the library of Go hold what its text lays.
-/
import Derived.Test.YtaafimabgcnbaabGreatDoorMBE
import Derived.Test.YtaafimabgcnbaabGreatDoorMZZ
import Derived.Test.YtaafimabgcnbaabGreatDoorMJ
import Derived.Test.YtaafimabgcnbaabGreatDoorTie
import Derived.Test.YtaafimabgcnbaabGreatDoorCards
import Derived.Stop.LaidErr
import Derived.LaidMore
import Derived.SevenTiedAt
set_option linter.all false
namespace Go.Proofs.YtaafimabgcnbaabGreatDoor
open Go Go.Rx Go.RowKit Go.Big
open Go.ChangeShapes Go.WideShapes Go.ChangeAt
set_option maxRecDepth 100000 in
theorem text_arg {U : World} {bb : Nat} {v : Value} (hv : Value.okWide Tryz.prog U .any bb 9 v) : ∃ s : ByteArray, v = .string s := by
  have hv' : Cell.ok Tryz.prog U .any bb 9 v := by simpa only [Value.okWide, Cell.okWide, Tryz.underlying9] using hv
  unfold Cell.ok at hv'
  rw [Tryz.underlying9] at hv'
  cases v with
  | string s => exact ⟨s, rfl⟩
  | _ => exact hv'.elim
set_option maxRecDepth 100000 in
theorem tab_of_laid {U : World} (h : laidMetH Tryz.prog Rows.wideBackRow.laid U) : Lib.TabIs Tryz.prog U "internal/strconv.uint64pow10" .u64 Lib.pow10Tab := by
  rw [MakeChecks.laidMetH_plain _ _ _ (by kernel_rfl)] at h
  exact Lib.tabIs_of_head (g := 2) (by kernel_rfl) (by kernel_rfl) Tryz.underlying149 Tryz.underlying22 (by kernel_rfl) (by kernel_rfl) (laidMet.tail (laidMet.tail h))
theorem door_met (os : Os) (args : Array Value) : laidMetH Tryz.prog Rows.wideBackRow.laid ((World.doorLaid Tryz.prog 24 os).forCall (fun _ _ => 0) ⟨#[], args, []⟩).memory :=
  laidMetH_of_parts3 (fuel := 8) (laidMet_of_run' 8 (by kernel_rfl) (by kernel_rfl)) (by kernel_rfl) (by kernel_rfl)
set_option maxRecDepth 100000 in
theorem back_lifted (os : Os) (started : os.Started) (H : Type) (enc : TypeId × Value → H) :
    ReturnsInHanded {} Tryz.checked os 3 .any (fun w args => (Rows.wideBackSpec.pre enc Tryz.prog Tryz.f3 [] false w args ∧ laidMetH Tryz.prog Rows.wideBackRow.laid w) ∧ sizedMet enc Tryz.prog Tryz.f3 (OpenSpec.ofChange Rows.wideBackSpec) false w args)
      (Rows.wideBackSpec.post enc Tryz.prog Tryz.f3 false true false false) := by
  refine returnsInHanded_of_change_and (C := Tryz.checked) (X := fun w _ => laidMetH Tryz.prog Rows.wideBackRow.laid w) (fun _ _ _ hh h => h.of_heap hh) own started (by kernel_rfl) Tryz.func3
    (ChangeSpec.witness_shaped (enc := enc) (C := Tryz.checked) (os := os) (X := fun w _ => laidMetH Tryz.prog Rows.wideBackRow.laid w) false (World.doorLaid Tryz.prog 24 os) #[.agg #[.int .u64 0, .int .u64 0, .int .u64 0, .int .u64 0, .int .u64 0, .int .u64 0, .int .u64 0, .int .u64 0], .agg #[.bool false, .slice none 0 0, .int .u32 0], .agg #[.bool false, .slice none 0 0, .int .u32 0], .string ⟨#[]⟩, .int .i64 0, .int .i64 0] 8 rfl (World.shaped_of_RefB (by kernel_rfl) (by kernel_rfl)) (by kernel_rfl) (by kernel_rfl) (by kernel_rfl) (door_met os _)) ?_
  intro U base args ds gs before hval0 hW _ _ hL _
  have hval : ∀ (j : Nat) t v, Tryz.f3.params[j]? = some t → args[j]? = some v → Value.okWide Tryz.prog U .any base t v := hval0
  have hW' := hW
  obtain ⟨p, q, hA00, hV, rfl, hfz, hnd⟩ := hW
  have hA : DataW.TrodAll enc Tryz.prog U 0 (fun _ => true) true Tryz.f3.params.toList args.toList ds p := hA00
  rw [Tryz.params3] at hA hval
  obtain ⟨v0, vs0, d0, ds0, p0, q0, hargs, rfl, rfl, h0, hA0'⟩ := trodAll_cons hA
  obtain ⟨v1, vs1, d1, ds1, p1, q1, rfl, rfl, rfl, h1, hA1'⟩ := trodAll_cons hA0'
  obtain ⟨v2, vs2, d2, ds2, p2, q2, rfl, rfl, rfl, h2, hA2'⟩ := trodAll_cons hA1'
  obtain ⟨v3, vs3, d3, ds3, p3, q3, rfl, rfl, rfl, h3, hA3'⟩ := trodAll_cons hA2'
  obtain ⟨v4, vs4, d4, ds4, p4, q4, rfl, rfl, rfl, h4, hA4'⟩ := trodAll_cons hA3'
  obtain ⟨v5, vs5, d5, ds5, p5, q5, rfl, rfl, rfl, h5, hA5'⟩ := trodAll_cons hA4'
  obtain ⟨rfl, rfl, rfl⟩ := trodAll_nil hA5'
  obtain ⟨args⟩ := args
  simp only at hargs
  subst hargs
  obtain ⟨rfl, rfl⟩ := trodVars_none hV
  have h0' := h0
  have h1' := h1
  have h2' := h2
  have h3' := h3
  have h4' := h4
  have h5' := h5
  obtain ⟨m0', t0⟩ := h0'
  obtain ⟨m1', t1⟩ := h1'
  obtain ⟨m2', t2⟩ := h2'
  obtain ⟨m3', t3⟩ := h3'
  obtain ⟨m4', t4⟩ := h4'
  obtain ⟨m5', t5⟩ := h5'
  obtain ⟨xa, fa, rfl⟩ := wide_arg (hval 0 24 v0 rfl rfl)
  obtain ⟨bx, vx, bitsx, lx, rfl, hX⟩ := draft_arg (hval 1 28 v1 rfl rfl) t1
  obtain ⟨by_, vy, bitsy, ly, rfl, hY⟩ := draft_arg (hval 2 28 v2 rfl rfl) t2
  obtain ⟨s, rfl⟩ := text_arg (hval 3 9 v3 rfl rfl)
  obtain ⟨m, hm0, hm1, rfl⟩ := int_arg (hval 4 3 v4 rfl rfl)
  obtain ⟨n, hn0, hn1, rfl⟩ := int_arg (hval 5 3 v5 rfl rfl)
  have lt0 : ∀ x ∈ p0, x.block < U.heap.size := DataW.trod_lt m0' _ _ _ t0
  have lt1 : ∀ x ∈ p1, x.block < U.heap.size := DataW.trod_lt m1' _ _ _ t1
  have lt2 : ∀ x ∈ p2, x.block < U.heap.size := DataW.trod_lt m2' _ _ _ t2
  have lt3 : ∀ x ∈ p3, x.block < U.heap.size := DataW.trod_lt m3' _ _ _ t3
  have lt4 : ∀ x ∈ p4, x.block < U.heap.size := DataW.trod_lt m4' _ _ _ t4
  have lt5 : ∀ x ∈ p5, x.block < U.heap.size := DataW.trod_lt m5' _ _ _ t5
  clear hA00 hval0
  obtain ⟨a0, a1, a2, a3, a4, a5, a6, a7, -, -, ea⟩ := words_of fa
  have hB := back_law (w := U) fa ea (bx := bx) (by_ := by_) hX hY (s := s) hm0 hm1 hn0 hn1 (tab_of_laid hL)
  rw [← ea] at hB
  refine hB.mono fun e W' he => ?_
  obtain ⟨r, rfl, rfl, bel⟩ := he
  exact ⟨_, rfl, _, _, _, [], _, [], hW', trodAll_mk1 (shut_bool Tryz.underlying4 _), (trodAll_cons_mk (Below.trod laidOut (by kernel_rfl) (of_decide_eq_true (by kernel_rfl)) h0 bel lt0) (trodAll_cons_mk (Below.trod laidOut (by kernel_rfl) (of_decide_eq_true (by kernel_rfl)) h1 bel lt1) (trodAll_cons_mk (Below.trod laidOut (by kernel_rfl) (of_decide_eq_true (by kernel_rfl)) h2 bel lt2) (trodAll_cons_mk (Below.trod laidOut (by kernel_rfl) (of_decide_eq_true (by kernel_rfl)) h3 bel lt3) (trodAll_cons_mk (Below.trod laidOut (by kernel_rfl) (of_decide_eq_true (by kernel_rfl)) h4 bel lt4) (trodAll_cons_mk (Below.trod laidOut (by kernel_rfl) (of_decide_eq_true (by kernel_rfl)) h5 bel lt5) trodAll_mk0)))))), rfl, bel.frame _, fun h => by cases h⟩
theorem back_said : Rows.WideBackSaid :=
  OpenClaim.holds_of_wide 3 Tryz.f3 rfl rfl rfl rfl rfl rfl rfl ⟨rfl, rfl, rfl, rfl, rfl⟩ rfl rfl rfl rfl rfl (by kernel_rfl) Tryz.func3 (by kernel_rfl)
    (of_decide_eq_true (by kernel_rfl)) (by unfold Func.isWrapper; first | (rw [if_pos (by decide +kernel)]; kernel_rfl) | (rw [if_neg (by decide +kernel)]; exact ⟨rfl, rfl⟩))
    (fun os started H enc _ => back_lifted os started H enc)
/-- The statement. -/
theorem back_holds : Rows.WideBackCardSaid :=
  Claim7.holds_tied_plain_at .later [] [.data, .data, .data] true (true, "d0324090ebadbba4e4320c06b0a4d37659d5d965b86d4e602b46824c85cb44e6") false
    back_said (fun _ h => by cases h) (by kernel_rfl) (fun _ h => by cases h) wideBack_row_tie rfl ⟨rfl, rfl⟩ (by kernel_rfl) rfl
    (fun f fn hf hfn => by
      obtain rfl : f = 3 := Option.some.inj ((show Tryz.prog.funcNamed "wardmote/wardmotelaw01.WideBack" = some 3 by kernel_rfl).symm.trans hf) |>.symm
      obtain rfl : fn = Tryz.f3 := (Option.some.inj (Tryz.func3.symm.trans hfn)).symm
      exact ⟨by kernel_rfl, fun j t ht => by
        rw [Tryz.params3] at ht
        have h3 : t = 24 ∨ t = 28 ∨ t = 9 ∨ t = 3 := by
          match j, ht with
          | 0, ht => exact .inl (Option.some.inj ht).symm
          | 1, ht => exact .inr (.inl (Option.some.inj ht).symm)
          | 2, ht => exact .inr (.inl (Option.some.inj ht).symm)
          | 3, ht => exact .inr (.inr (.inl (Option.some.inj ht).symm))
          | 4, ht => exact .inr (.inr (.inr (Option.some.inj ht).symm))
          | 5, ht => exact .inr (.inr (.inr (Option.some.inj ht).symm))
          | j + 6, ht => cases ht
        rcases h3 with rfl | rfl | rfl | rfl
        · exact (show Tryz.prog.wantsStandIn 24 = false by kernel_rfl)
        · exact (show Tryz.prog.wantsStandIn 28 = false by kernel_rfl)
        · exact (show Tryz.prog.wantsStandIn 9 = false by kernel_rfl)
        · exact (show Tryz.prog.wantsStandIn 3 = false by kernel_rfl)⟩)
    (by kernel_rfl)
#print axioms back_holds
end Go.Proofs.YtaafimabgcnbaabGreatDoor
