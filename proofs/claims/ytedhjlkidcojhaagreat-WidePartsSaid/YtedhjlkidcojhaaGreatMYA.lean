/-
  The reference's twice: a number of any length, doubled, and a bit.
-/
import Derived.Test.YtedhjlkidcojhaaGreatMK
set_option linter.all false
namespace Go.Proofs.YtedhjlkidcojhaaGreat
open Go Go.RowKit Go.Big
section
variable [Av]
structure TwI (xs : List Int) (d : Int) (L : Nat) (w : World) (out : Value) (c : Int) (k : Nat) (zs : List Int) (wr : World) : Prop where
  kL : k ≤ L
  c0 : 0 ≤ c
  c1 : c ≤ 1
  own : wr.ownsRow w.heap.size 3 1 out zs.length (zs.map (Value.int .i64))
  len : zs.length = k
  gd : good zs
  eq : 2 * val (xs.take k) + d = val zs + c * pw k
  bel : Below w.heap.size w wr
theorem tw_step {xs zs : List Int} {c c' d e : Int} {k : Nat} (hl : zs.length = k) (h : 2 * val (xs.take k) + d = val zs + c * pw k) (hd : e + c' * 4294967296 = 2 * xs.getD k 0 + c) :
    2 * val (xs.take (k + 1)) + d = val (zs ++ [e]) + c' * pw (k + 1) := by
  rw [val_take_any, val_snoc, pw_succ, hl]
  have : pw k * (e + c' * 4294967296) = pw k * (2 * xs.getD k 0 + c) := by rw [hd]
  grind
def TwRel (xs : List Int) (d : Int) (L : Nat) (w : World) (cr out i : Value) (wr : World) : Prop :=
  ∃ (k : Nat) (c : Int) (zs : List Int), cr = .int .i64 c ∧ i = .int .i64 k ∧ TwI xs d L w out c k zs wr
set_option maxHeartbeats 1600000 in
set_option maxRecDepth 100000 in
theorem twice_c {w : World} {v : Value} {xs : List Int} {d : Int} (h1 : RowK .i64 w v xs) (g1 : good xs) (d0 : 0 ≤ d) (d1 : d ≤ 1) (s1 : xs.length ≤ 1000000) :
    Calls Tryz.prog 107 #[v, .int .i64 d] w (Gets (DigV (2 * val xs + d)) w) := by
  have hav := h1.av
  obtain ⟨i0, hi, hz0, hz1, hz2⟩ := info_parts Tryz.info3
  obtain ⟨a, c, rfl, hc⟩ := h1.len
  generalize hL : xs.length = L at *
  go_enter Tryz.func107, Tryz.ntmps107
  go_wp2
  go_loopw [1, 5, 6] (TwRel xs d L w) (fun _ _ i _ => L - (intOf i).toNat)
  case atStart => exact ⟨0, d, [], rfl, rfl, Nat.zero_le _, d0, d1, World.ownsRow_nil _ _ _ _, rfl, good_nil, by simp [val, pw], Below.refl _ _⟩
  case round =>
    obtain ⟨k, r, zs, rfl, rfl, kL, c0, c1, own, len, gd, eq, bel⟩ := hrel
    have hsz := bel.size
    by_cases hk : k < L
    · obtain ⟨b, o, rfl, hb, hc1⟩ := h1.cell (j := k) (by omega)
      have hx := (bel.cell (p := ⟨b, o + k, none⟩) hb).trans hc1
      obtain ⟨x0, x1⟩ := good_getD g1 k
      have N : ∀ v' w3, w3.ownsRow w.heap.size 3 1 v' (zs.length + 1) (zs.map (Value.int .i64) ++ [.int .i64 ((2 * xs.getD k 0 + r) % 4294967296)]) → Below w.heap.size w w3 → TwRel xs d L w (.int .i64 ((2 * xs.getD k 0 + r) / 4294967296)) v' (.int .i64 ((k : Int) + 1)) w3 := fun v' w3 ho hb3 =>
        ⟨k + 1, (2 * xs.getD k 0 + r) / 4294967296, zs ++ [(2 * xs.getD k 0 + r) % 4294967296], rfl, rfl, by omega, by omega, by omega, by simpa using ho, by simp [len], good_snoc gd (by omega) (by omega), tw_step len eq (by omega), hb3⟩
      clear hc1 h1 eq
      generalize xs.getD k 0 = x at *
      go_wp2_with (at_builtin; refine wpList_append_own _ rfl _ _ 62 rfl w.heap.size 3 i0 (.int .i64 0) 1 8 Tryz.underlying62 hi hz0 hz1 hz2 rfl (by decide) _ _ _ rfl (own.alloc _) ⟨wr.heap.size, 0, none⟩ 1 1 [.int .i64 ((2 * x + r) % 4294967296)] rfl rfl (cell1 _ _ _) one1 (by unfold maxLen; omega) (by omega) (by simp; omega) ?_; intro v' w3 hown' hgrow3 hnil3)
      go_roundw
      case rel => exact N _ _ hown' (below_append bel own hgrow3)
      case measure => simp [intOf]; omega
    · obtain rfl : k = L := by omega
      have hv : val (zs ++ [r]) = 2 * val xs + d := by
        rw [List.take_of_length_le (by omega)] at eq
        rw [val_snoc, len, eq]; grind
      have gz : good (zs ++ [r]) := good_snoc gd c0 (by omega)
      clear h1 eq
      go_wp2_with (at_builtin; refine wpList_append_own _ rfl _ _ 62 rfl w.heap.size 3 i0 (.int .i64 0) 1 8 Tryz.underlying62 hi hz0 hz1 hz2 rfl (by decide) _ _ _ rfl (own.alloc _) ⟨wr.heap.size, 0, none⟩ 1 1 [.int .i64 r] rfl rfl (cell1 _ _ _) one1 (by unfold maxLen; omega) (by omega) (by simp; omega) ?_; intro v' w3 hown' hgrow3 hnil3)
      have hown2 : w3.ownsRow w.heap.size 3 1 v' (zs ++ [r]).length ((zs ++ [r]).map (Value.int .i64)) := by simpa using hown'
      have bel3 := below_append bel own hgrow3
      have hrow := RowK.of_owns hav bel3.size hown2
      clear hown' hown2
      refine (cut_c hrow (by simp; omega)).mono ?_
      rintro e w4 ⟨v4, m, rfl, hm, hr4, hz4, hn4, rfl⟩
      have hr4 := hr4 _ hrow
      have hv4 := val_cut hz4
      go_wp2
      go_ret
      exact ⟨_, rfl, ⟨_, hr4, good_take gz m, hn4, by rw [hv4, hv]⟩, bel3⟩
end
end Go.Proofs.YtedhjlkidcojhaaGreat
