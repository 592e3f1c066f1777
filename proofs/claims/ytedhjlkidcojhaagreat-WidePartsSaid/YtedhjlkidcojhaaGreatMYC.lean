/-
  The reference's parts, for every two rows of digits.
-/
import Derived.Test.YtedhjlkidcojhaaGreatMYB
set_option linter.all false
namespace Go.Proofs.YtedhjlkidcojhaaGreat
open Go Go.RowKit Go.Big
attribute [local instance] noAv
def PartsV (m n : Int) (w : World) (r : Value) : Prop := ∃ qv rv, r = .tuple #[qv, rv] ∧ DigV (m / n) w qv ∧ DigV (m % n) w rv
theorem dig_forget {A : Nat → Prop} {n : Int} {w : World} {v : Value} (h : @DigV ⟨A⟩ n w v) : DigV n w v := by
  obtain ⟨zs, h1, h2⟩ := h
  exact ⟨zs, row_forget h1, h2⟩
theorem dig_set {n : Int} {b o : Nat} {w : World} {v : Value} (h : @DigV (avq b) n w v) (u : Value) : @DigV (avq b) n (w.setCell ⟨b, o, none⟩ u) v := by
  obtain ⟨zs, h1, h2⟩ := h
  exact ⟨zs, row_set h1 u, h2⟩
theorem dig_nil (w : World) : DigV 0 w (.slice none 0 0) := ⟨[], RowK.nil fun _ h => h.elim, good_nil, fun h => absurd h (Nat.lt_irrefl _), rfl⟩
set_option maxHeartbeats 1600000 in
set_option maxRecDepth 100000 in
theorem parts_small {w : World} {v u : Value} {xs ys : List Int} (h1 : RowK .i64 w v xs) (h2 : RowK .i64 w u ys) (g1 : good xs) (g2 : good ys) (n1 : norm xs) (n2 : norm ys) (s2 : ys.length ≤ 1000) (hlt : xs.length < ys.length) :
    Calls Tryz.prog 90 #[v, u] w (Gets (PartsV (val xs) (val ys)) w) := by
  obtain ⟨i0, hi, hz0, hz1, hz2⟩ := info_parts Tryz.info3
  obtain ⟨a', c', rfl, hc'⟩ := h2.len
  have hv := norm_len g1 g2 n2 hlt
  have h0 := (val_bounds g1).1
  have e1 : val xs / val ys = 0 := Int.ediv_eq_zero_of_lt h0 hv
  have e2 : val xs % val ys = val xs := Int.emod_eq_of_lt h0 hv
  have hB : ∀ o, Below w.heap.size w (w.alloc o) := fun o => (Below.refl _ _).alloc (Nat.le_refl _) o
  rcases h1 with ⟨rfl, rfl, -⟩ | ⟨b, o, cap, rfl, hcap, hb, hc, -⟩
  · generalize hM : ys.length = M at *
    have hM0 : 0 < M := by simpa using hlt
    clear hlt hv
    go_enter Tryz.func90, Tryz.ntmps90
    go_wp2_with (at_builtin; refine wpList_append_own_none rfl _ _ 62 rfl w.heap.size 3 i0 1 Tryz.underlying62 hi _ 0 [] rfl (own_blank w) rfl ?_)
    go_wp2
    go_ret2
    refine ⟨_, rfl, ⟨_, _, rfl, ?_, ?_⟩, hB _⟩
    · rw [e1]; exact dig_nil _
    · rw [e2]; exact ⟨[], RowK.own0 (own_blank w), good_nil, fun h => absurd h (Nat.lt_irrefl _), rfl⟩
  · have hnews := (row_news (show RowK .i64 w (.slice (some ⟨b, o, none⟩) xs.length cap) xs from .inr ⟨b, o, cap, rfl, hcap, hb, hc, id, fun _ h => h.elim⟩)).2.2.2
    have hnews : ∀ W, Below w.heap.size w W → ∀ j u, (xs.map (Value.int .i64))[j]? = some u → W.cell? ((⟨b, o, none⟩ : Addr).add j) = some u := fun W hW j u hj => by
      have := hnews j u hj
      rw [Addr.add_lit] at this ⊢
      exact (hW.cell (p := ⟨b, o + j, none⟩) hb).trans this
    generalize hM : ys.length = M at *
    generalize hL : xs.length = L at *
    clear hv
    go_enter Tryz.func90, Tryz.ntmps90
    go_wp2_with (at_builtin; (refine wpList_append_own _ rfl _ _ 62 rfl w.heap.size 3 i0 (.int .i64 0) 1 8 Tryz.underlying62 hi hz0 hz1 hz2 rfl (by decide) _ 0 [] rfl (own_blank w) ⟨b, o, none⟩ L cap (xs.map (Value.int .i64)) rfl (by simp [hL]) (hnews _ (hB _)) (ints_ones xs) (by unfold maxLen; omega) (by omega) (by simp) ?_; intro v' w3 hown' hgrow3 hnil3))
    rw [Nat.zero_add, List.nil_append] at hown'
    have hb3 : Below w.heap.size w w3 := (hB _).grown hgrow3 (by simp) (own_base (own_blank w))
    have hrow : RowK .i64 w3 v' xs := RowK.own0 hown'
    go_wp2
    go_ret2
    refine ⟨_, rfl, ⟨_, _, rfl, ?_, ?_⟩, hb3⟩
    · rw [e1]; exact dig_nil _
    · rw [e2]; exact ⟨xs, hrow, g1, n1, rfl⟩
end Go.Proofs.YtedhjlkidcojhaaGreat
