/-
  Contracts of package wide, for every value: the length in words; halves of magnitudes.
-/
import Derived.Test.YteaglhkacfcgfaaRxZ
namespace Go.Proofs.Yteaglhkacfcgfaa
open Go Go.Rx Go.RowKit

/-- n has L words. -/
def hasLen (n L : Nat) : Prop := n < 2 ^ (64 * L) ∧ (L ≠ 0 → dig n (L - 1) ≠ 0)
theorem dig_high {n L i : Nat} (h : n < 2 ^ (64 * L)) (hi : L ≤ i) : dig n i = 0 := by
  have : 2 ^ (64 * L) ≤ 2 ^ (64 * i) := Nat.pow_le_pow_right (by decide) (by omega)
  unfold dig
  rw [Nat.div_eq_of_lt (by omega)]
theorem has_len (n k : Nat) : n < 2 ^ (64 * k) → ∃ L, L ≤ k ∧ hasLen n L := by
  induction k with
  | zero => intro h; exact ⟨0, Nat.le_refl _, h, fun h => absurd rfl h⟩
  | succ k ih =>
    intro h
    by_cases hd : dig n k = 0
    · have hl := low_step n k
      rw [Nat.mod_eq_of_lt h, hd, Nat.mul_zero, Nat.zero_add] at hl
      have hm := Nat.mod_lt n (show 0 < 2 ^ (64 * k) from Nat.pow_pos (by decide))
      rw [← hl] at hm
      obtain ⟨L, h1, h2⟩ := ih hm
      exact ⟨L, Nat.le_succ_of_le h1, h2⟩
    · exact ⟨k + 1, Nat.le_refl _, h, fun _ => hd⟩
theorem nine {L : Nat} (h : L ≤ 8) : L = 0 ∨ L = 1 ∨ L = 2 ∨ L = 3 ∨ L = 4 ∨ L = 5 ∨ L = 6 ∨ L = 7 ∨ L = 8 := by omega
def lenTests (L : Nat) : List Test := ((List.range (8 - L)).map fun t => (⟨.eql, .inp .u64 (8 * 0 + (7 - t)), .lit 0, true⟩ : Test)) ++ (if L = 0 then [] else [⟨.eql, .inp .u64 (8 * 0 + (L - 1)), .lit 0, false⟩])
theorem len_run (L : Nat) (h : L ≤ 8) (σ : Nat → Int) : runs σ [] (lenTests L) ⟨91, [inN 0], .s (i1 L)⟩ 100 = true := by
  rcases nine h with rfl | rfl | rfl | rfl | rfl | rfl | rfl | rfl | rfl <;> kernel_rfl
/-- (magnitude).length. -/
theorem f_length (n L : Nat) (hL : L ≤ 8) (h : hasLen n L) : Gives Try.prog 91 [magV n] (.int .i64 L) := by
  have e := inp_sigN (fun _ => n) 0
  have ht : ∀ t ∈ lenTests L, TestOk (sigN fun _ => n) t := by
    intro t ht k
    simp only [lenTests, List.mem_append, List.mem_map, List.mem_range] at ht
    rcases ht with ⟨q, hq, rfl⟩ | ht
    · simp only [intBin, ev_lit]
      rw [e (7 - q) (by omega), dig_high h.1 (by omega)]
      rfl
    · split at ht
      · cases ht
      · rename_i hj
        simp only [List.mem_cons, List.not_mem_nil, or_false] at ht
        subst ht
        simp only [intBin, ev_lit]
        rw [e (L - 1) (by omega)]
        have hne := h.2 hj
        generalize dig n (L - 1) = d at hne
        congr 2
        simp only [beq_eq_false_iff_ne, ne_eq]
        omega
  have := run_gives (sigN fun _ => n) [] _ no_row ht _ 100 (len_run L hL)
  simp only [List.map_cons, List.map_nil, val_inN, valV_s, val_i1] at this
  exact this

/-! ### Halves -/
def sigH (m : Nat) (i : Nat) : Int := if i < 8 then (dig m i : Int) else if i < 16 then (dig (m / 2) (i - 8) : Int) else ((dig m (i - 16) % 2 : Nat) : Int)
theorem sigH0 (m i : Nat) (h : i < 8) : (Exp.inp .u64 (0 + i)).eval (sigH m) = dig m i := by
  have := dig_lt m i
  simp only [Exp.eval, wrap_u64, sigH, show 0 + i < 8 by omega, if_true, Nat.zero_add]; omega
theorem sigH1 (m i : Nat) (h : i < 8) : (Exp.inp .u64 (8 + i)).eval (sigH m) = dig (m / 2) i := by
  have := dig_lt (m / 2) i
  simp only [Exp.eval, wrap_u64, sigH, show ¬ (8 + i < 8) by omega, show 8 + i < 16 by omega, if_true, if_false, show 8 + i - 8 = i by omega]; omega
theorem sigH2 (m i : Nat) : (Exp.inp .u64 (16 + i)).eval (sigH m) = ((dig m i % 2 : Nat) : Int) := by
  have := dig_lt m i
  simp only [Exp.eval, wrap_u64, sigH, show ¬ (16 + i < 8) by omega, show ¬ (16 + i < 16) by omega, if_false, show 16 + i - 16 = i by omega]; omega
theorem half_dig (m i : Nat) : dig (m / 2) i = ((dig m (i + 1) % 2) * 18446744073709551616 + dig m i) / 2 := by
  have h := div_step m i
  have e : m / 2 / 2 ^ (64 * i) = m / 2 ^ (64 * i) / 2 := by rw [Nat.div_div_eq_div_mul, Nat.mul_comm, ← Nat.div_div_eq_div_mul]
  have hd := dig_lt m i
  have hq : dig m (i + 1) % 2 = m / 2 ^ (64 * (i + 1)) % 2 := by unfold dig; omega
  have hx : dig (m / 2) i = m / 2 / 2 ^ (64 * i) % 2 ^ 64 := rfl
  rw [hx, e, h, hq]
  generalize dig m i = d at *
  generalize m / 2 ^ (64 * (i + 1)) = q
  omega
def remIn (L i : Nat) : V1 := if i + 1 = L then u1 0 else x1 (.inp .u64 (16 + (i + 1)))
def divRow (L i : Nat) : Row := ⟨106, [remIn L i, x1 (.inp .u64 (0 + i)), u1 2], .tup [x1 (.inp .u64 (8 + i)), x1 (.inp .u64 (16 + i))]⟩
def divRows (L : Nat) : List Row := ⟨91, [inW 0], .s (i1 L)⟩ :: (List.range L).map (divRow L)
def halfC (L i : Nat) : C := if i < L then .ex .u64 (.inp .u64 (8 + i)) else .v (.int .u64 0)
def half8 (L : Nat) : V1 := .agg [halfC L 0, halfC L 1, halfC L 2, halfC L 3, halfC L 4, halfC L 5, halfC L 6, halfC L 7]
def remOut (L : Nat) : V1 := if L = 0 then u1 0 else x1 (.inp .u64 (16 + 0))
theorem half_run (L : Nat) (h : L ≤ 8) (σ : Nat → Int) : runs σ (divRows L) [] ⟨93, [inW 0, u1 2], .tup [half8 L, remOut L]⟩ 200 = true := by
  rcases nine h with rfl | rfl | rfl | rfl | rfl | rfl | rfl | rfl | rfl <;> kernel_rfl
theorem val_half (m L i : Nat) (hi : i < 8) (h : m < 2 ^ (64 * L)) : valC (sigH m) (halfC L i) = .int .u64 (dig (m / 2) i) := by
  unfold halfC
  split
  · show Value.int .u64 ((Exp.inp .u64 (8 + i)).eval (sigH m)) = _
    rw [sigH1 m i hi]
  · rw [dig_high (n := m / 2) (L := L) (by omega) (by omega)]
    rfl
/-- (magnitude).divideByWord by two. -/
theorem f_half (m : Nat) (hm : m < 13407807929942597099574024998205846127479365820592393377723561443721764030073546976801874298166903427690031858186486050853753882811946569946433649006084096) : Gives Try.prog 93 [magV m, .int .u64 2] (.tuple #[magV (m / 2), .int .u64 ((m % 2 : Nat) : Int)]) := by
  obtain ⟨L, hL, hl⟩ := has_len m 8 (by rw [p2_eight]; exact hm)
  have v0 : val1 (sigH m) (inW 0) = magV m := val_w8 _ _ _ fun i hi => sigH0 m i hi
  have hr : ∀ r ∈ divRows L, RowGives Try.prog (sigH m) r := by
    intro r hr
    simp only [divRows, List.mem_cons, List.mem_map, List.mem_range] at hr
    rcases hr with rfl | ⟨i, hi, rfl⟩
    · refine ⟨rfl, ?_⟩
      simp only [List.map_cons, List.map_nil, v0, valV_s, val_i1]
      exact f_length m L hL hl
    · have hd := dig_lt m i
      refine ⟨?_, ?_⟩
      · unfold divRow remIn
        by_cases hc : i + 1 = L
        · simp only [hc, if_true]; rfl
        · simp only [hc, if_false]; rfl
      · have key : ∀ q : Nat, q = dig m (i + 1) % 2 → Gives Try.prog 106 [.int .u64 (q : Int), .int .u64 (dig m i : Int), .int .u64 2] (.tuple #[.int .u64 (dig (m / 2) i : Int), .int .u64 ((dig m i % 2 : Nat) : Int)]) := fun q hq => by
          have hh := half_dig m i
          rw [← hq] at hh
          have := f_Div64 q (dig m i) ⟨by omega, by omega⟩ ⟨by omega, by omega⟩
          rw [show ((q : Int) * 18446744073709551616 + (dig m i : Int)) / 2 = ((dig (m / 2) i : Nat) : Int) by rw [hh]; omega, show (dig m i : Int) % 2 = ((dig m i % 2 : Nat) : Int) by omega] at this
          exact this
        simp only [divRow, List.map_cons, List.map_nil, valV_tup2, val_u1, val_x1, sigH0 m i (by omega), sigH1 m i (by omega), sigH2]
        unfold remIn
        by_cases hc : i + 1 = L
        · rw [if_pos hc, val_u1]
          exact key 0 (by rw [dig_high hl.1 (by omega)])
        · rw [if_neg hc, val_x1, sigH2]
          exact key _ rfl
  have := run_gives (sigH m) _ [] hr no_test _ 200 (half_run L hL)
  simp only [List.map_cons, List.map_nil, v0, valV_tup2, val_u1] at this
  have e8 : val1 (sigH m) (half8 L) = magV (m / 2) := by
    simp only [half8, val1, magV, List.map_cons, List.map_nil, val_half m L _ (show 0 < 8 by decide) hl.1, val_half m L _ (show 1 < 8 by decide) hl.1, val_half m L _ (show 2 < 8 by decide) hl.1, val_half m L _ (show 3 < 8 by decide) hl.1, val_half m L _ (show 4 < 8 by decide) hl.1, val_half m L _ (show 5 < 8 by decide) hl.1, val_half m L _ (show 6 < 8 by decide) hl.1, val_half m L _ (show 7 < 8 by decide) hl.1]
  have e1 : val1 (sigH m) (remOut L) = .int .u64 ((m % 2 : Nat) : Int) := by
    unfold remOut
    split
    · rename_i h0
      subst h0
      have : m = 0 := by have := hl.1; simp at this; exact this
      subst this; rfl
    · rw [val_x1, sigH2]
      congr 2
      unfold dig
      simp only [Nat.mul_zero, Nat.pow_zero, Nat.div_one]
      omega
  rw [e8, e1] at this
  exact this
end Go.Proofs.Yteaglhkacfcgfaa
