/-
  Both Below hand back the same, for every limit.
-/
import Derived.Test.YtfeapgpjchjphaaGreatMEE
set_option linter.all false
namespace Go.Proofs.YtfeapgpjchjphaaGreat
open Go Go.RowKit Go.Big
attribute [local instance] noAv
def belowQ (s n : Int) (r : Value) : Prop := (n < 1 ∧ r = .tuple #[.int .i64 0, .agg #[.int .u64 0], .int .i64 2]) ∨ (1 ≤ n ∧ BelowV s n r)
theorem belowQ_inj {s n : Int} {r r' : Value} (h : belowQ s n r) (h' : belowQ s n r') : r = r' := by
  rcases h with ⟨h, rfl⟩ | ⟨h, k⟩ <;> rcases h' with ⟨h', rfl⟩ | ⟨h', k'⟩
  · rfl
  · omega
  · omega
  · exact belowV_inj k k'
set_option maxHeartbeats 1600000 in
set_option maxRecDepth 100000 in
theorem refBelow_arg {w : World} {s n : Int} (h1 : n < 1) : Calls Tryz.prog 7 #[.agg #[.int .u64 s], .int .i64 n] w (Gets (fun _ r => r = .tuple #[.int .i64 0, .agg #[.int .u64 0], .int .i64 2]) w) := by
  have nb := fun o o' => next_below (w := w) (o := o) (o' := o')
  have k := fun o o' => (heap2 w o o').2
  have c := fun o v => (cellOf (j := 0) (k o (.cells #[v] 24))).trans (show (#[v] : Array Value)[0]? = some v from rfl)
  clear k
  go_enter Tryz.func7, Tryz.ntmps7
  go_wp2
  exact bodyPost_ret (v := .tuple #[.int .i64 0, .agg #[.int .u64 0], .int .i64 2]) (by simp [results, Tryz.results7, go_sem, c]) rfl ⟨_, rfl, rfl, nb _ _⟩
theorem below_q {w : World} {s n : Int} (h2 : n < 9223372036854775808) : Calls Tryz.prog 6 #[.agg #[.int .u64 s], .int .i64 n] w (Gets (fun _ r => belowQ s n r) w) := by
  by_cases h1 : n < 1
  · exact (Below_arg h1).mono fun e w' ⟨r, he, hr, hb⟩ => ⟨r, he, .inl ⟨h1, hr⟩, hb⟩
  · exact (Below_c (by omega) h2).mono fun e w' ⟨r, he, hr, hb⟩ => ⟨r, he, .inr ⟨by omega, hr⟩, hb⟩
theorem refBelow_q {w : World} {s n : Int} (h2 : n < 9223372036854775808) : Calls Tryz.prog 7 #[.agg #[.int .u64 s], .int .i64 n] w (Gets (fun _ r => belowQ s n r) w) := by
  by_cases h1 : n < 1
  · exact (refBelow_arg h1).mono fun e w' ⟨r, he, hr, hb⟩ => ⟨r, he, .inl ⟨h1, hr⟩, hb⟩
  · exact (refBelow_c (by omega) h2).mono fun e w' ⟨r, he, hr, hb⟩ => ⟨r, he, .inr ⟨by omega, hr⟩, hb⟩
end Go.Proofs.YtfeapgpjchjphaaGreat
