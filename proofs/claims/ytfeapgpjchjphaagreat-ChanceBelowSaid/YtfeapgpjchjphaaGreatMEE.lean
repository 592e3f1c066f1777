/-
  Both shuffles hand back the same.
-/
import Derived.Test.YtfeapgpjchjphaaGreatMED
import Derived.Test.YtfeapgpjchjphaaGreatMEA
set_option linter.all false
namespace Go.Proofs.YtfeapgpjchjphaaGreat
open Go Go.RowKit Go.Big
attribute [local instance] noAv
theorem belowV_inj {s n : Int} {r r' : Value} (h : BelowV s n r) (h' : BelowV s n r') : r = r' := by
  rcases h with ⟨i, hi, hno, hok, rfl⟩ | ⟨hno, rfl⟩ <;> rcases h' with ⟨i', hi', hno', hok', rfl⟩ | ⟨hno', rfl⟩
  · rcases Nat.lt_trichotomy i i' with h | rfl | h
    · rw [hno' i h] at hok; cases hok
    · rfl
    · rw [hno i' h] at hok'; cases hok'
  · rw [hno' i hi] at hok; cases hok
  · rw [hno i' hi'] at hok'; cases hok'
  · rfl
theorem shufV_inj : ∀ (i : Nat) {s : Int} {l : List Int} {o o' : Option (Int × List Int)}, ShufV i s l o → ShufV i s l o' → o = o'
  | 0, _, _, _, _, h, h' => h.trans h'.symm
  | i + 1, _, _, _, _, h, h' => by
    rcases h with ⟨k, t, -, hb, hs⟩ | ⟨hb, rfl⟩ <;> rcases h' with ⟨k', t', -, hb', hs'⟩ | ⟨hb', rfl⟩
    · have e := belowV_inj hb hb'
      simp only [Value.tuple.injEq, Array.mk.injEq, List.cons.injEq, Value.int.injEq, Value.agg.injEq, true_and, and_true] at e
      obtain ⟨e1, rfl⟩ := e
      obtain rfl : k = k' := by omega
      exact shufV_inj i hs hs'
    · have e := belowV_inj hb hb'
      simp at e
    · have e := belowV_inj hb hb'
      simp at e
    · rfl
/-- What a shuffle of k from the state s hands back. -/
def ShufS (k s : Int) (xs : List Int) (s' e : Int) : Prop :=
  ((k < 0 ∨ 400 < k) ∧ xs = [] ∧ s' = 0 ∧ e = 2) ∨ ∃ n : Nat, k = n ∧ n ≤ 400 ∧ ((ShufV (n - 1) s (firstN n) (some (s', xs)) ∧ e = 0) ∨ (ShufV (n - 1) s (firstN n) none ∧ xs = [] ∧ s' = 0 ∧ e = 9))
theorem shufS_inj {k s s1 e1 s2 e2 : Int} {xs ys : List Int} (h : ShufS k s xs s1 e1) (h' : ShufS k s ys s2 e2) : ys = xs ∧ s2 = s1 ∧ e2 = e1 := by
  rcases h with ⟨hk, rfl, rfl, rfl⟩ | ⟨n, rfl, hn, h⟩ <;> rcases h' with ⟨hk', rfl, rfl, rfl⟩ | ⟨n', e, hn', h'⟩
  · exact ⟨rfl, rfl, rfl⟩
  · omega
  · omega
  · obtain rfl : n = n' := by omega
    rcases h with ⟨h, rfl⟩ | ⟨h, rfl, rfl, rfl⟩ <;> rcases h' with ⟨h', rfl⟩ | ⟨h', rfl, rfl, rfl⟩
    · have := shufV_inj _ h h'
      simp only [Option.some.injEq, Prod.mk.injEq] at this
      exact ⟨this.2.symm, this.1.symm, rfl⟩
    · cases shufV_inj _ h h'
    · cases shufV_inj _ h h'
    · exact ⟨rfl, rfl, rfl⟩
def ShufQ (k s : Int) (w' : World) (r : Value) : Prop :=
  ∃ (v : Value) (xs : List Int) (s' e : Int), r = .tuple #[v, .agg #[.int .u64 s'], .int .i64 e] ∧ RowK .i64 w' v xs ∧ xs.length ≤ 400 ∧ ShufS k s xs s' e
set_option maxHeartbeats 1600000 in
set_option maxRecDepth 100000 in
theorem shuffle_neg {w : World} {s n : Int} (h0 : n < 0) : Calls Tryz.prog 13 #[.agg #[.int .u64 s], .int .i64 n] w (Gets (fun _ r => r = .tuple #[.slice none 0 0, .agg #[.int .u64 0], .int .i64 2]) w) := by
  have nb := fun o o' => next_below (w := w) (o := o) (o' := o')
  have k := fun o o' => (heap2 w o o').2
  have c := fun o v => (cellOf (j := 0) (k o (.cells #[v] 24))).trans (show (#[v] : Array Value)[0]? = some v from rfl)
  clear k
  go_enter Tryz.func13, Tryz.ntmps13
  go_wp2
  exact bodyPost_ret (v := .tuple #[.slice none 0 0, .agg #[.int .u64 0], .int .i64 2]) (by simp [results, Tryz.results13, go_sem, c]) rfl ⟨_, rfl, rfl, nb _ _⟩
set_option maxHeartbeats 1600000 in
set_option maxRecDepth 100000 in
theorem refShuffle_neg {w : World} {s n : Int} (h0 : n < 0) : Calls Tryz.prog 14 #[.agg #[.int .u64 s], .int .i64 n] w (Gets (fun _ r => r = .tuple #[.slice none 0 0, .agg #[.int .u64 0], .int .i64 2]) w) := by
  have nb := fun o o' => next_below (w := w) (o := o) (o' := o')
  have k := fun o o' => (heap2 w o o').2
  have c := fun o v => (cellOf (j := 0) (k o (.cells #[v] 24))).trans (show (#[v] : Array Value)[0]? = some v from rfl)
  clear k
  go_enter Tryz.func14, Tryz.ntmps14
  go_wp2
  exact bodyPost_ret (v := .tuple #[.slice none 0 0, .agg #[.int .u64 0], .int .i64 2]) (by simp [results, Tryz.results14, go_sem, c]) rfl ⟨_, rfl, rfl, nb _ _⟩
set_option maxHeartbeats 1600000 in
set_option maxRecDepth 100000 in
theorem refShuffle_arg {w : World} {s n : Int} (h1 : 400 < n) : Calls Tryz.prog 14 #[.agg #[.int .u64 s], .int .i64 n] w (Gets (fun _ r => r = .tuple #[.slice none 0 0, .agg #[.int .u64 0], .int .i64 2]) w) := by
  have h0 : ¬ n < 0 := by omega
  have h1' : n > 400 := h1
  have nb := fun o o' => next_below (w := w) (o := o) (o' := o')
  have k := fun o o' => (heap2 w o o').2
  have c := fun o v => (cellOf (j := 0) (k o (.cells #[v] 24))).trans (show (#[v] : Array Value)[0]? = some v from rfl)
  clear k
  go_enter Tryz.func14, Tryz.ntmps14
  go_wp2
  exact bodyPost_ret (v := .tuple #[.slice none 0 0, .agg #[.int .u64 0], .int .i64 2]) (by simp [results, Tryz.results14, go_sem, c]) rfl ⟨_, rfl, rfl, nb _ _⟩
theorem shufQ_arg {k s : Int} {w' : World} {r : Value} (hk : k < 0 ∨ 400 < k) (h : r = .tuple #[.slice none 0 0, .agg #[.int .u64 0], .int .i64 2]) : ShufQ k s w' r :=
  ⟨_, [], 0, 2, h, RowK.nil (fun _ h => h.elim), Nat.zero_le _, .inl ⟨hk, rfl, rfl, rfl⟩⟩
theorem shuffle_q {w : World} (s k : Int) : Calls Tryz.prog 13 #[.agg #[.int .u64 s], .int .i64 k] w (Gets (ShufQ k s) w) := by
  by_cases h0 : k < 0
  · exact (shuffle_neg h0).mono fun e w' ⟨r, he, hr, hb⟩ => ⟨r, he, shufQ_arg (.inl h0) hr, hb⟩
  · by_cases h1 : 400 < k
    · exact (shuffle_arg h1).mono fun e w' ⟨r, he, hr, hb⟩ => ⟨r, he, shufQ_arg (.inr h1) hr, hb⟩
    · obtain ⟨n, rfl⟩ := Int.eq_ofNat_of_zero_le (show 0 ≤ k by omega)
      refine (shuffle_c (s := s) (n := n) (by omega)).mono fun e w' ⟨r, he, ⟨o, ho, hr⟩, hb⟩ => ⟨r, he, ?_, hb⟩
      rcases hr with ⟨s', l, B, rfl, hl, rfl, hI⟩ | ⟨rfl, rfl⟩
      · refine ⟨_, l, s', 0, rfl, ?_, by omega, .inr ⟨n, rfl, by omega, .inl ⟨ho, rfl⟩⟩⟩
        have := IntsPre.row (c := n) (l := l) (B := B) (w := w') ⟨[], by rw [List.append_nil]; exact hI⟩ (by omega)
        rw [hl] at this
        exact this
      · exact ⟨_, [], 0, 9, rfl, RowK.nil (fun _ h => h.elim), Nat.zero_le _, .inr ⟨n, rfl, by omega, .inr ⟨ho, rfl, rfl, rfl⟩⟩⟩
theorem refShuffle_q {w : World} (s k : Int) : Calls Tryz.prog 14 #[.agg #[.int .u64 s], .int .i64 k] w (Gets (ShufQ k s) w) := by
  by_cases h0 : k < 0
  · exact (refShuffle_neg h0).mono fun e w' ⟨r, he, hr, hb⟩ => ⟨r, he, shufQ_arg (.inl h0) hr, hb⟩
  · by_cases h1 : 400 < k
    · exact (refShuffle_arg h1).mono fun e w' ⟨r, he, hr, hb⟩ => ⟨r, he, shufQ_arg (.inr h1) hr, hb⟩
    · obtain ⟨n, rfl⟩ := Int.eq_ofNat_of_zero_le (show 0 ≤ k by omega)
      refine (refShuffle_c (s := s) (n := n) (by omega)).mono fun e w' ⟨r, he, ⟨o, ho, hr⟩, hb⟩ => ⟨r, he, ?_, hb⟩
      rcases hr with ⟨s', l, v, rfl, hl, rfl, hR⟩ | ⟨rfl, rfl⟩
      · exact ⟨_, l, s', 0, rfl, hR, by omega, .inr ⟨n, rfl, by omega, .inl ⟨ho, rfl⟩⟩⟩
      · exact ⟨_, [], 0, 9, rfl, RowK.nil (fun _ h => h.elim), Nat.zero_le _, .inr ⟨n, rfl, by omega, .inr ⟨ho, rfl, rfl, rfl⟩⟩⟩
end Go.Proofs.YtfeapgpjchjphaaGreat
