/-
  For every state and all numbers, Shuffle of package chance agrees with the reference: the law ChanceShuffles answers true. No condition.
-/
import Derived.Test.YtfeapgpjchjphaaGreatMEE
import Derived.Lib.Hide
set_option linter.all false
namespace Go.Proofs.YtfeapgpjchjphaaGreat
open Go Go.RowKit Go.Big
attribute [local instance] noAv
theorem two_at (a b : Int) (k : Nat) (hk : k < 2) : ∃ x : Int, ∀ U, (Instr.index 44 (.agg #[.int .i64 a, .int .i64 b]) (.int .i64 (k : Int))).run Tryz.prog U = .ok (.int .i64 x) U := by
  match k, hk with
  | 0, _ => exact ⟨a, fun U => by kernel_rfl⟩
  | 1, _ => exact ⟨b, fun U => by kernel_rfl⟩
def LawRel (w : World) (s : Int) (a : Value) (wr : World) : Prop :=
  ∃ i : Nat, a = .int .i64 i ∧ i ≤ 2 ∧ Below w.heap.size w wr ∧ wr.heap[w.heap.size]? = some (.cells #[.int .u64 s] 24)
set_option maxHeartbeats 3200000 in
set_option maxRecDepth 100000 in
theorem shuffles_law {w : World} (hworks : ∀ U : World, Calls Tryz.prog 5 #[] U (Gets (fun _ r => r = .bool true) U)) (s n f : Int) (f0 : 0 ≤ f) (f1 : f < 65536) :
    Calls Tryz.prog 4 #[.agg #[.int .u64 s], .int .i64 n, .int .u16 f] w (Gets (fun _ r => r = .bool true) w) := by
  have k1 := fun o => (MapKept.heap_alloc w o).1
  have nb := fun o => (Below.refl w.heap.size w).alloc (Nat.le_refl _) o
  go_enter Tryz.func4, Tryz.ntmps4
  go_wp2_with fail
  refine (hworks _).mono ?_
  rintro e w1 ⟨r, rfl, rfl, hb1⟩
  have k1 := keepH (k1 _) hb1
  have belw := (nb _).trans (hb1.mono (by simp))
  clear nb hb1
  go_wp2_with fail
  go_loopw [22] (LawRel w s) (fun i _ => 2 - (intOf i).toNat)
  case atStart => exact ⟨0, rfl, by omega, belw, k1⟩
  case round =>
    clear k1 belw
    obtain ⟨i, rfl, hi, belw, k1⟩ := hrel
    by_cases h7 : i < 2
    · obtain ⟨K, hix⟩ := two_at n (f % 40) i h7
      have h7' : (i : Int) < 2 := by omega
      have i0 : (0 : Int) ≤ (i : Int) := by omega
      have c1 : wr.cell? ⟨w.heap.size, 0, none⟩ = some (.int .u64 s) := (cellOf k1).trans rfl
      have lk := lt_of_heap k1
      go_wp2_with fail
      refine (shuffle_q s K).mono ?_
      rintro e w2 ⟨r2, rfl, ⟨v2, xs, s2, e2, rfl, hr2, hl, hs2⟩, hb2⟩
      have k2 := (hb2.block _ lk).trans k1
      have b2 : Below w.heap.size w w2 := belw.trans (hb2.mono (Nat.le_of_lt lk))
      have bal := (Below.refl w2.heap.size w2).alloc (Nat.le_refl _) (.cells #[.int .u64 s2] 24)
      have k2' := (bal.block _ (lt_of_heap k2)).trans k2
      have q10 := (MapKept.heap_alloc w2 (.cells #[.int .u64 s2] 24)).1
      have c2 : (w2.alloc (.cells #[.int .u64 s2] 24)).cell? ⟨w.heap.size, 0, none⟩ = some (.int .u64 s) := (cellOf k2').trans rfl
      have hr2 := hr2.alloc (.cells #[.int .u64 s2] 24)
      have l2 := lt_of_heap k2
      have b2' : Below w.heap.size w (w2.alloc (.cells #[.int .u64 s2] 24)) := b2.trans (bal.mono (Nat.le_of_lt l2))
      clear hb2 bal b2 k1 c1 belw
      go_wp2_with fail
      refine (refShuffle_q s K).mono ?_
      rintro e w3 ⟨r3, rfl, ⟨v3, ys, s3, e3, rfl, hr3, -, hs3⟩, hb3⟩
      obtain ⟨rfl, rfl, rfl⟩ := shufS_inj hs2 hs3
      have hr2 := (hr2.below hb3).alloc (.cells #[.int .u64 s3] 24)
      have hr3 := hr3.alloc (.cells #[.int .u64 s3] 24)
      have bal := (Below.refl w3.heap.size w3).alloc (Nat.le_refl _) (.cells #[.int .u64 s3] 24)
      have k3 := (hb3.block _ (lt_of_heap k2')).trans k2'
      have q10 := (hb3.block _ (lt_of_heap q10)).trans q10
      have l3 := lt_of_heap k3
      have b3 : Below w.heap.size w (w3.alloc (.cells #[.int .u64 s3] 24)) := (b2'.trans (hb3.mono (Nat.le_of_lt (lt_of_heap k2')))).trans (bal.mono (Nat.le_of_lt l3))
      have k3 := (bal.block _ l3).trans k3
      have q10 := (bal.block _ (lt_of_heap q10)).trans q10
      have q13 := (MapKept.heap_alloc w3 (.cells #[.int .u64 s3] 24)).1
      clear hb3 bal b2' k2' k2 c2 hs2 hs3
      go_wp2_with fail
      refine (equal_c hr2 hr3 hl).mono ?_
      rintro e w4 ⟨r4, rfl, rfl, hb4⟩
      have c10 : w4.cell? ⟨w2.heap.size, 0, none⟩ = some (.int .u64 s3) := (cellOf ((hb4.block _ (lt_of_heap q10)).trans q10)).trans rfl
      have c13 : w4.cell? ⟨w3.heap.size, 0, none⟩ = some (.int .u64 s3) := (cellOf ((hb4.block _ (lt_of_heap q13)).trans q13)).trans rfl
      have hfin : LawRel w s (.int .i64 ((i : Int) + 1)) w4 := ⟨i + 1, rfl, by omega, b3.trans (hb4.mono (Nat.le_of_lt (lt_of_heap k3))), (hb4.block _ (lt_of_heap k3)).trans k3⟩
      clear hr2 hr3 hb4 b3 k3 q10 q13 hl l2 l3 lk
      go_wp2
      go_roundw
      case rel => exact hfin
      case measure => simp [intOf]; omega
    · obtain rfl : i = 2 := by omega
      clear k1
      go_wp2
      go_ret
      exact ⟨_, rfl, rfl, belw⟩
end Go.Proofs.YtfeapgpjchjphaaGreat
