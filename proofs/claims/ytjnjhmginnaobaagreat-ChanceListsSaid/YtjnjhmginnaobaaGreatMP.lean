/-
  The generator's mixing is one to one; a shuffled list is the first numbers in another order; two draws from one state are the same.
-/
import Derived.Test.YtjnjhmginnaobaaGreatMCO
import Derived.Test.YtjnjhmginnaobaaGreatMCT
import Derived.Laws.BitsAllLaws
set_option linter.all false
namespace Go.Proofs.YtjnjhmginnaobaaGreat
open Go Go.RowKit Go.Big Go.Shelf
attribute [local instance] noAv
theorem xt_nat (k : Nat) (h3 : 64 ≤ 3 * k) (u : Nat) (hu : u < 2 ^ 64) : (u ^^^ (u >>> k)) ^^^ (((u ^^^ (u >>> k)) >>> k) ^^^ ((u ^^^ (u >>> k)) >>> (2 * k))) = u := by
  apply Nat.eq_of_testBit_eq
  intro i
  simp only [Nat.testBit_xor, Nat.testBit_shiftRight]
  have e1 : u.testBit (k + (2 * k + i)) = false := Nat.testBit_lt_two_pow (Nat.lt_of_lt_of_le hu (Nat.pow_le_pow_right (by decide) (by omega)))
  have e2 : k + (k + i) = 2 * k + i := by omega
  rw [e1, e2]
  cases u.testBit i <;> cases u.testBit (k + i) <;> cases u.testBit (2 * k + i) <;> rfl
theorem xt_int (k K K2 : Nat) (hK : K = 2 ^ k) (hK2 : K2 = 2 ^ (2 * k)) (h3 : 64 ≤ 3 * k) (a : Int) (h0 : 0 ≤ a) (h1 : a < 18446744073709551616) :
    0 ≤ bits BinOp.xor IntKind.u64 a (a / K) ∧ bits BinOp.xor IntKind.u64 a (a / K) < 18446744073709551616 ∧ unX K K2 (bits BinOp.xor IntKind.u64 a (a / K)) = a := by
  obtain ⟨u, rfl⟩ := Int.eq_ofNat_of_zero_le h0
  have hu : u < 18446744073709551616 := by omega
  have dd : ∀ v : Nat, ((v : Int) / (K : Int)) = ((v >>> k : Nat) : Int) := fun v => by rw [Nat.shiftRight_eq_div_pow, ← hK]; rfl
  have dd2 : ∀ v : Nat, ((v : Int) / (K2 : Int)) = ((v >>> (2 * k) : Nat) : Int) := fun v => by rw [Nat.shiftRight_eq_div_pow, ← hK2]; rfl
  have ls : ∀ (v j : Nat), v < 18446744073709551616 → v >>> j < 18446744073709551616 := fun v j hv => Nat.lt_of_le_of_lt (Nat.shiftRight_le _ _) hv
  have l3 : u ^^^ (u >>> k) < 18446744073709551616 := xor_lt hu (ls _ _ hu)
  rw [dd, u64_xor_nat _ _ hu (ls _ _ hu)]
  refine ⟨by omega, by omega, ?_⟩
  unfold unX
  rw [dd, dd2, u64_xor_nat _ _ (ls _ _ l3) (ls _ _ l3), u64_xor_nat _ _ l3 (xor_lt (ls _ _ l3) (ls _ _ l3)), xt_nat k h3 u hu]
theorem bef_mix (s : Int) (h0 : 0 ≤ s) (h1 : s < 18446744073709551616) : bef (mix s) = s := by
  have rA := wrap_range (s + 11400714819323198485)
  obtain ⟨a0, a1, a2⟩ := xt_int 30 1073741824 1152921504606846976 (by decide) (by decide) (by decide) (st s) rA.1 rA.2
  have rB := wrap_range (bits BinOp.xor IntKind.u64 (st s) (st s / 1073741824) * 13787848793156543929)
  obtain ⟨p0, p1, p2⟩ := xt_int 27 134217728 18014398509481984 (by decide) (by decide) (by decide) (mxa (st s)) rB.1 rB.2
  have rC := wrap_range (bits BinOp.xor IntKind.u64 (mxa (st s)) (mxa (st s) / 134217728) * 10723151780598845931)
  obtain ⟨q0, q1, q2⟩ := xt_int 31 2147483648 4611686018427387904 (by decide) (by decide) (by decide) (mx2 (mxa (st s))) rC.1 rC.2
  have m2 : b2 (mix s) = bits BinOp.xor IntKind.u64 (mxa (st s)) (mxa (st s) / 134217728) := by
    unfold b2
    rw [show unX 2147483648 4611686018427387904 (mix s) = mx2 (mxa (st s)) from q2]
    exact mul_inv p0 p1 (by decide)
  have m4 : b4 (mix s) = bits BinOp.xor IntKind.u64 (st s) (st s / 1073741824) := by
    unfold b4
    rw [m2, show unX 134217728 18014398509481984 (bits BinOp.xor IntKind.u64 (mxa (st s)) (mxa (st s) / 134217728)) = mxa (st s) from p2]
    exact mul_inv a0 a1 (by decide)
  unfold bef
  rw [m4, show unX 1073741824 1152921504606846976 (bits BinOp.xor IntKind.u64 (st s) (st s / 1073741824)) = st s from a2]
  unfold st
  rw [wrap_u, wrap_u]
  omega
theorem mix_inj {s t : Int} (h0 : 0 ≤ s) (h1 : s < 18446744073709551616) (k0 : 0 ≤ t) (k1 : t < 18446744073709551616) (h : mix s = mix t) : s = t := by
  rw [← bef_mix s h0 h1, h, bef_mix t k0 k1]
theorem mix_within (s : Int) : 0 ≤ mix s ∧ mix s < 18446744073709551616 := by
  have rC := wrap_range (bits BinOp.xor IntKind.u64 (mxa (st s)) (mxa (st s) / 134217728) * 10723151780598845931)
  obtain ⟨q0, q1, q2⟩ := xt_int 31 2147483648 4611686018427387904 (by decide) (by decide) (by decide) (mx2 (mxa (st s))) rC.1 rC.2
  exact ⟨q0, q1⟩
/-- The state that Split returns for a label. -/
def splitS (s l : Int) : Int := mix (bits BinOp.xor IntKind.u64 s (mix (IntKind.u64.wrap l)))
theorem xor_in (a b : Int) (h0 : 0 ≤ a) (h1 : a < 18446744073709551616) (k0 : 0 ≤ b) (k1 : b < 18446744073709551616) : ∃ u v : Nat, a = u ∧ b = v ∧ u < 18446744073709551616 ∧ v < 18446744073709551616 ∧ bits BinOp.xor IntKind.u64 a b = ((u ^^^ v : Nat) : Int) := by
  obtain ⟨u, rfl⟩ := Int.eq_ofNat_of_zero_le h0
  obtain ⟨v, rfl⟩ := Int.eq_ofNat_of_zero_le k0
  exact ⟨u, v, rfl, rfl, by omega, by omega, u64_xor_nat _ _ (by omega) (by omega)⟩
theorem xor_inj_nat {a u v : Nat} (h : a ^^^ u = a ^^^ v) : u = v := by
  have e : a ^^^ (a ^^^ u) = a ^^^ (a ^^^ v) := by rw [h]
  rwa [← Nat.xor_assoc, ← Nat.xor_assoc, Nat.xor_self, Nat.zero_xor, Nat.zero_xor] at e
theorem split_inj {s a b : Int} (s0 : 0 ≤ s) (s1 : s < 18446744073709551616) (a0 : -9223372036854775808 ≤ a) (a1 : a < 9223372036854775808) (b0 : -9223372036854775808 ≤ b) (b1 : b < 9223372036854775808) (h : splitS s a = splitS s b) : a = b := by
  have ra := mix_within (IntKind.u64.wrap a)
  have rb := mix_within (IntKind.u64.wrap b)
  obtain ⟨x, u, e1, e2, x1, u1, e3⟩ := xor_in s (mix (IntKind.u64.wrap a)) s0 s1 ra.1 ra.2
  obtain ⟨y, v, f1, f2, y1, v1, f3⟩ := xor_in s (mix (IntKind.u64.wrap b)) s0 s1 rb.1 rb.2
  unfold splitS at h
  rw [e3, f3] at h
  have lx := xor_lt x1 u1
  have ly := xor_lt y1 v1
  have h2 := mix_inj (by omega) (by omega) (by omega) (by omega) h
  have h3 : x ^^^ u = y ^^^ v := by omega
  obtain rfl : x = y := by omega
  have h4 := xor_inj_nat h3
  have h5 : mix (IntKind.u64.wrap a) = mix (IntKind.u64.wrap b) := by rw [e2, f2, h4]
  have wa := wrap_range a
  have wb := wrap_range b
  have h6 := mix_inj wa.1 wa.2 wb.1 wb.2 h5
  rw [wrap_u, wrap_u] at h6
  omega
theorem swapL_perm (l : List Int) (i j : Nat) (hi : i < l.length) (hj : j < l.length) : (swapL l i j).Perm l := by
  unfold swapL
  have e1 : l.getD j 0 = l[j] := by simp [List.getD, hj]
  have e2 : l.getD i 0 = l[i] := by simp [List.getD, hi]
  rw [e1, e2]
  exact List.set_set_perm hi hj
theorem shufV_perm : ∀ (i : Nat) {s s' : Int} {l l' : List Int}, i < l.length ∨ i = 0 → ShufV i s l (some (s', l')) → l'.Perm l
  | 0, s, s', l, l', _, h => by
    have h : some (s', l') = some (s, l) := h
    injection h with h
    injection h with _ h
    rw [h]
  | i + 1, s, s', l, l', hl, h => by
    rcases h with ⟨k, t, hk, _, hs⟩ | ⟨_, h⟩
    · have h1 : i + 1 < l.length := by omega
      have := shufV_perm i (l := swapL l (i + 1) k) (.inl (by rw [swapL_length]; omega)) hs
      exact this.trans (swapL_perm l (i + 1) k h1 (by omega))
    · cases h
theorem firstN_pairwise (n : Nat) : (firstN n).Pairwise fun x y => decide (x ≤ y) = true := by
  unfold firstN
  rw [List.pairwise_map]
  refine List.Pairwise.imp ?_ (List.pairwise_lt_range (n := n))
  intro a b h
  have : (Int.ofNat a) ≤ Int.ofNat b := by simp; omega
  simpa using this
theorem sort_firstN {n : Nat} {l : List Int} (h : l.Perm (firstN n)) : (l.mergeSort fun x y => decide (x ≤ y)) = firstN n := by
  refine List.Perm.eq_of_pairwise (le := fun x y => decide (x ≤ y) = true) ?_ (List.pairwise_mergeSort ?_ ?_ l) (firstN_pairwise n) ((List.mergeSort_perm l _).trans h)
  · intro a b _ _ h1 h2
    simp at h1 h2; omega
  · intro a b c h1 h2
    simp at *; omega
  · intro a b
    simp; omega
theorem belowV_inj {s n : Int} {r r' : Value} (h : BelowV s n r) (h' : BelowV s n r') : r = r' := by
  rcases h with ⟨i, hi, hno, hok, rfl⟩ | ⟨hno, rfl⟩ <;> rcases h' with ⟨i', hi', hno', hok', rfl⟩ | ⟨hno', rfl⟩
  · rcases Nat.lt_trichotomy i i' with h | rfl | h
    · rw [hno' i h] at hok; cases hok
    · rfl
    · rw [hno i' h] at hok'; cases hok'
  · rw [hno' i hi] at hok; cases hok
  · rw [hno i' hi'] at hok'; cases hok'
  · rfl
theorem shufV_inj : ∀ (i : Nat) {s : Int} {l : List Int} {o o' : Option (Int × List Int)}, ShufV i s l o → ShufV i s l o' → o = o'
  | 0, _, _, _, _, h, h' => h.trans h'.symm
  | i + 1, _, _, _, _, h, h' => by
    rcases h with ⟨k, t, -, hb, hs⟩ | ⟨hb, rfl⟩ <;> rcases h' with ⟨k', t', -, hb', hs'⟩ | ⟨hb', rfl⟩
    · have e := belowV_inj hb hb'
      simp only [Value.tuple.injEq, Array.mk.injEq, List.cons.injEq, Value.int.injEq, Value.agg.injEq, true_and, and_true] at e
      obtain ⟨e1, rfl⟩ := e
      obtain rfl : k = k' := by omega
      exact shufV_inj i hs hs'
    · have e := belowV_inj hb hb'
      simp at e
    · have e := belowV_inj hb hb'
      simp at e
    · rfl
end Go.Proofs.YtjnjhmginnaobaaGreat
