/-
  Parse of package wide, for every text: what it answers.
-/
import Derived.Test.YtaafimabgcnbaabGreatDoorMTV
set_option linter.all false
namespace Go.Proofs.YtaafimabgcnbaabGreatDoor
open Go Go.Rx Go.RowKit Go.Big
attribute [local instance] noAv
def parseV (z : Int) : Value := if fit z then outV z else bigV
theorem parse_own (s : ByteArray) (hs : s.size ≤ 1000000) : (∀ h : RightD s, ∀ U, Calls Tryz.prog 6 #[.string s] U (Gets (fun _ r => r = parseV (textZ s (right_num h).1)) U)) ∧ (¬ RightD s → ∀ U, Calls Tryz.prog 6 #[.string s] U (Gets (fun _ r => r = .tuple #[W 0, .int .i64 5]) U)) := by
  obtain ⟨d, neg, hd, hneg, hR, hZ, -, hds⟩ := parts_text s
  have hC := fun U => cutP_c s U
  rw [hd, hneg] at hC
  have hN0 := fun U => numeral_c (w := U) d (by omega)
  have hN : ∀ num : Bool, (num = true ↔ NumOk d) → ∀ U, Calls Tryz.prog 30 #[.string d] U (Gets (fun _ r => r = .bool num) U) := fun num hn U => (hN0 U).mono fun e w' he => by
    obtain ⟨v, rfl, ⟨b, rfl, hb⟩, hB⟩ := he
    refine ⟨_, rfl, ?_, hB⟩
    have : b = num := by rw [Bool.eq_iff_iff, hn]; exact hb
    rw [this]
  constructor
  · intro hr U
    obtain ⟨hok, hnz⟩ := hR.1 hr
    have hyes : neg = false ∨ (d.toList == [48]) = false := by
      cases neg
      · exact .inl rfl
      · refine .inr ?_
        cases hz : (d.toList == [48])
        · rfl
        · exact absurd ⟨rfl, hz⟩ hnz
    have hN1 := hN true (iff_of_true rfl hok)
    have hRd := fun U => read_c (w := U) d hok.1
    rw [hZ hr]
    unfold parseV
    by_cases hn : numV d d.size < 13407807929942597099574024998205846127479365820592393377723561443721764030073546976801874298166903427690031858186486050853753882811946569946433649006084096
    · unfold readV at hRd
      simp only [if_pos hn] at hRd
      have hO := fun U => gives_gets (f_wideOf (numV d d.size) neg true hn) U
      obtain ⟨x, e, hx, he⟩ := res_of (sg (numV d d.size) neg)
      have hO' : ∀ U, Calls Tryz.prog 32 #[sgV (numV d d.size) neg, .bool true] U (Gets (fun _ r => r = .tuple #[W x, .int .i64 e]) U) := fun U => by
        have h := hO U
        rw [he]
        simpa only [true_and] using h
      rw [← he]
      exact parse_yes' hC hN1 rfl hyes hRd hO'
    · unfold readV at hRd
      simp only [if_neg hn] at hRd
      have hO := fun U => gives_gets (f_wideOf 0 neg false (by decide)) U
      have hO' : ∀ U, Calls Tryz.prog 32 #[sgV 0 neg, .bool false] U (Gets (fun _ r => r = .tuple #[W 0, .int .i64 6]) U) := fun U => by
        have h := hO U
        simp only [Bool.false_eq_true, false_and, if_false] at h
        exact h
      rw [if_neg (sg_big hn)]
      exact parse_yes' hC hN1 rfl hyes hRd hO'
  · intro hr U
    have hno : ∃ num : Bool, (num = true ↔ NumOk d) ∧ (num = false ∨ (neg = true ∧ (d.toList == [48]) = true)) := by
      by_cases hk : NumOk d
      · refine ⟨true, iff_of_true rfl hk, .inr ?_⟩
        exact Classical.byContradiction fun h => hr (hR.2 ⟨hk, h⟩)
      · exact ⟨false, iff_of_false (by decide) hk, .inl rfl⟩
    obtain ⟨num, h1, h2⟩ := hno
    exact parse_no' hC (hN num h1) rfl h2
end Go.Proofs.YtaafimabgcnbaabGreatDoor
