/-
  wide.Pow with an exponent that is out of range, and the reference's Pow, for every value.
-/
import Derived.Test.YtedhjlkidcojhaaMQD
import Derived.Test.YtedhjlkidcojhaaMLFb
set_option linter.all false
namespace Go.Proofs.Ytedhjlkidcojhaa
open Go Go.Rx Go.RowKit Go.Big
def sigPw (m : Nat) (n : Int) (i : Nat) : Int := if i < 8 then (dig m i : Int) else n
def peT : Bool → List Test
  | true => [⟨.lss, .inp .i64 8, .lit 0, true⟩]
  | false => [⟨.lss, .inp .i64 8, .lit 0, false⟩, ⟨.gtr, .inp .i64 8, .lit 600, true⟩]
theorem powE_run (σ : Nat → Int) (b : Bool) : runs σ [] (peT b) ⟨10, [inN 0, e1 .i64 8], .tup [z8, i1 2]⟩ 100 = true := by cases b <;> kernel_rfl
/-- Pow, where the exponent is out of range. -/
theorem f_PowE (x n : Int) (h0 : -9223372036854775808 ≤ n) (h1 : n ≤ 9223372036854775807) (hn : n < 0 ∨ 600 < n) : Gives Try.prog 10 [W x, .int .i64 n] (.tuple #[W 0, .int .i64 2]) := by
  have en : (Exp.inp .i64 8).eval (sigPw (un x) n) = n := wrap_i64 n (by omega)
  have ht : ∀ t ∈ peT (decide (n < 0)), TestOk (sigPw (un x) n) t := by
    intro t ht k
    by_cases hlt : n < 0
    · rw [decide_eq_true hlt] at ht
      simp only [peT, List.mem_cons, List.not_mem_nil, or_false] at ht
      subst ht
      show some (Value.bool (decide ((Exp.inp .i64 8).eval (sigPw (un x) n) < 0))) = some (.bool true)
      rw [en, decide_eq_true hlt]
    · rw [decide_eq_false hlt] at ht
      simp only [peT, List.mem_cons, List.not_mem_nil, or_false] at ht
      rcases ht with rfl | rfl
      · show some (Value.bool (decide ((Exp.inp .i64 8).eval (sigPw (un x) n) < 0))) = some (.bool false)
        rw [en, decide_eq_false hlt]
      · show some (Value.bool (decide ((Exp.inp .i64 8).eval (sigPw (un x) n) > 600))) = some (.bool true)
        rw [en, decide_eq_true (by omega)]
  have := run_gives (sigPw (un x) n) [] _ no_row ht ⟨10, [inN 0, e1 .i64 8], .tup [z8, i1 2]⟩ 100 (fun σ => powE_run σ _)
  have v0 : val1 (sigPw (un x) n) (inN 0) = W x := val_w8 _ _ (un x) fun i hi => by
    have := dig_lt (un x) i
    simp only [Exp.eval, wrap_u64, sigPw, if_pos hi]; omega
  have v1 : val1 (sigPw (un x) n) (e1 .i64 8) = .int .i64 n := by
    show Value.int .i64 ((Exp.inp .i64 8).eval (sigPw (un x) n)) = _
    rw [en]
  have v2 : val1 (sigPw (un x) n) z8 = W 0 := by
    rw [val_z8]
    show magV 0 = magV (un 0)
    rw [show un 0 = 0 by unfold un P512; rfl]
  simp only [List.map_cons, List.map_nil, valV_tup2, v0, v1, v2, val_i1] at this
  exact this
def powV (x n : Int) : Value := if n < 0 ∨ 600 < n then .tuple #[W 0, .int .i64 2] else resV (x ^ n.toNat) (fit (x ^ n.toNat))
theorem f_PowAll (x n : Int) (hx : fit x) (h0 : -9223372036854775808 ≤ n) (h1 : n ≤ 9223372036854775807) : Gives Try.prog 10 [W x, .int .i64 n] (powV x n) := by
  unfold powV
  split
  · exact f_PowE x n h0 h1 ‹_›
  · obtain ⟨k, rfl⟩ := Int.eq_ofNat_of_zero_le (show 0 ≤ n by omega)
    exact f_Pow x hx k (by omega)
attribute [local instance] noAv
theorem W0_cells : W 0 = .agg #[.int .u64 0, .int .u64 0, .int .u64 0, .int .u64 0, .int .u64 0, .int .u64 0, .int .u64 0, .int .u64 0] := by kernel_rfl
set_option maxHeartbeats 1600000 in
set_option maxRecDepth 100000 in
theorem refPow_out {w : World} {x n : Int} (hx : fit x) (hn : n < 0 ∨ 600 < n) : Calls Try.prog 11 #[W x, .int .i64 n] w (Gets (fun _ r => r = .tuple #[W 0, .int .i64 2]) w) := by
  obtain ⟨a0, a1, a2, a3, a4, a5, a6, a7, hg, rfl, he⟩ := words_of hx
  rw [he, W0_cells]
  clear he hx
  have bw : Below w.heap.size w ((w.alloc (.cells #[.int .u64 a0, .int .u64 a1, .int .u64 a2, .int .u64 a3, .int .u64 a4, .int .u64 a5, .int .u64 a6, .int .u64 a7] 24)).alloc (.cells #[.int .u64 0, .int .u64 0, .int .u64 0, .int .u64 0, .int .u64 0, .int .u64 0, .int .u64 0, .int .u64 0] 24)) := ((Below.refl _ _).alloc (Nat.le_refl _) _).alloc (by simp) _
  obtain ⟨k1, k2⟩ := heap2 w (.cells #[.int .u64 a0, .int .u64 a1, .int .u64 a2, .int .u64 a3, .int .u64 a4, .int .u64 a5, .int .u64 a6, .int .u64 a7] 24) (.cells #[.int .u64 0, .int .u64 0, .int .u64 0, .int .u64 0, .int .u64 0, .int .u64 0, .int .u64 0, .int .u64 0] 24)
  obtain ⟨y0, y1, y2, y3, y4, y5, y6, y7, fz⟩ := eight_zero k2
  rcases hn with hn | hn
  · go_enter Try.func11, Try.ntmps11
    go_wp2
    generalize ((w.alloc (.cells #[.int .u64 a0, .int .u64 a1, .int .u64 a2, .int .u64 a3, .int .u64 a4, .int .u64 a5, .int .u64 a6, .int .u64 a7] 24)).alloc (.cells #[.int .u64 0, .int .u64 0, .int .u64 0, .int .u64 0, .int .u64 0, .int .u64 0, .int .u64 0, .int .u64 0] 24)) = wb at *
    exact bodyPost_ret (v := .tuple #[.agg #[.int .u64 0, .int .u64 0, .int .u64 0, .int .u64 0, .int .u64 0, .int .u64 0, .int .u64 0, .int .u64 0], .int .i64 2]) (by simp [results, Try.results11, go_sem, y0, y1, y2, y3, y4, y5, y6, y7]) rfl ⟨_, rfl, rfl, bw⟩
  · have hn0 : ¬ n < 0 := by omega
    go_enter Try.func11, Try.ntmps11
    go_wp2
    generalize ((w.alloc (.cells #[.int .u64 a0, .int .u64 a1, .int .u64 a2, .int .u64 a3, .int .u64 a4, .int .u64 a5, .int .u64 a6, .int .u64 a7] 24)).alloc (.cells #[.int .u64 0, .int .u64 0, .int .u64 0, .int .u64 0, .int .u64 0, .int .u64 0, .int .u64 0, .int .u64 0] 24)) = wb at *
    exact bodyPost_ret (v := .tuple #[.agg #[.int .u64 0, .int .u64 0, .int .u64 0, .int .u64 0, .int .u64 0, .int .u64 0, .int .u64 0, .int .u64 0], .int .i64 2]) (by simp [results, Try.results11, go_sem, y0, y1, y2, y3, y4, y5, y6, y7]) rfl ⟨_, rfl, rfl, bw⟩
end Go.Proofs.Ytedhjlkidcojhaa
