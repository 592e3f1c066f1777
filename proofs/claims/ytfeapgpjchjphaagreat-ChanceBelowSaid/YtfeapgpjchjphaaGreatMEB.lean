/-
  The reference's words: a number of 64 bits as one of any length.
-/
import Derived.Test.YtfeapgpjchjphaaGreatMN
import Derived.Test.YtfeapgpjchjphaaGreatML
import Derived.Test.YtfeapgpjchjphaaGreatMK
set_option linter.all false
namespace Go.Proofs.YtfeapgpjchjphaaGreat
open Go Go.Rx Go.RowKit Go.Big
attribute [local instance] noAv
theorem wint_one (x : Int) : wint [x, 0, 0, 0, 0, 0, 0, 0] = x := by
  unfold wint
  rw [show [x, 0, 0, 0, 0, 0, 0, 0].getD 7 0 = (0 : Int) from rfl]
  simp only [wval]
  split <;> omega
set_option maxHeartbeats 1600000 in
set_option maxRecDepth 100000 in
theorem words_c {w : World} {x : Int} (h0 : 0 ≤ x) (h1 : x < 18446744073709551616) : Calls Tryz.prog 32 #[.int .u64 x] w (Gets (fun w' r => LongV w' r x) w) := by
  obtain ⟨e, hf⟩ := W_words (ws := [x, 0, 0, 0, 0, 0, 0, 0]) rfl (by
    intro y hy
    simp only [List.mem_cons, List.not_mem_nil, or_false] at hy
    rcases hy with rfl | rfl | rfl | rfl | rfl | rfl | rfl | rfl <;> omega)
  rw [wint_one] at e hf
  have b0 := fun o1 : Obj => Below.refl (w.heap.size + 1) (w.alloc o1)
  have hin := fun o1 : Obj => in_W (w := w.alloc o1) hf
  simp only [e] at hin
  clear e
  go_enter Tryz.func32, Tryz.ntmps32
  go_wp2_with fail
  refine (hin _).mono ?_
  rintro e w1 ⟨y, rfl, hy0, hb⟩
  have hy := hy0
  obtain ⟨bb, ss, zz, rfl, hr, hy'⟩ := hy
  obtain ⟨sa, sc, rfl, hsl⟩ := hr.len
  have b1 := next1 (b0 _) hb
  obtain ⟨q1, q2, q3, q4⟩ := res1 b1
  have F := hy0.box2 q1 q2 (.bool bb) (.slice sa zz.length sc)
  have hB : Below w.heap.size w w1 := ((Below.refl _ w).alloc (Nat.le_refl _) _).trans (b1.mono (by omega))
  have hB : Below w.heap.size w ((w1.setCell ⟨w.heap.size, 0, none⟩ (.bool bb)).setCell ⟨w.heap.size, 1, none⟩ (.slice sa zz.length sc)) := (hB.setCell (by simp) _).setCell (by simp) _
  clear hin hy0 hy' hr
  go_wp2
  exact bodyPost_ret (v := .agg #[.bool bb, .slice sa zz.length sc]) (by simp [results, Tryz.results32, go_sem, q1, q2]) rfl ⟨_, rfl, F, hB⟩
/-- What is taken: below the greatest multiple. -/
theorem limit_lt {n x : Int} (h1 : 1 ≤ n) (h2 : n < 9223372036854775808) (x0 : 0 ≤ x) (x1 : x < 18446744073709551616) :
    (x ≤ IntKind.u64.wrap (18446744073709551615 - (IntKind.u64.wrap (- n)).tmod n)) ↔ x < 18446744073709551616 / n * n := by
  have e1 : IntKind.u64.wrap (- n) = 18446744073709551616 - n := by rw [IntKind.wrap_u64]; omega
  rw [e1, Int.tmod_eq_emod_of_nonneg (by omega)]
  have e2 : (18446744073709551616 - n) % n = 18446744073709551616 % n := by
    rw [Int.sub_emod, Int.emod_self, Int.sub_zero, Int.emod_emod]
  rw [e2]
  have a := Int.emod_nonneg (18446744073709551616 : Int) (show n ≠ 0 by omega)
  have b := Int.emod_lt_of_pos (18446744073709551616 : Int) (show 0 < n by omega)
  have c := Int.mul_ediv_add_emod 18446744073709551616 n
  rw [Int.mul_comm] at c
  generalize 18446744073709551616 % n = r at *
  generalize 18446744073709551616 / n * n = q at *
  rw [IntKind.wrap_u64]
  omega
end Go.Proofs.YtfeapgpjchjphaaGreat
