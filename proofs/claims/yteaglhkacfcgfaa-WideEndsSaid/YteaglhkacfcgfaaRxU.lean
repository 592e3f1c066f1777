/-
  Contracts of package wide, for every value: differences; comparisons.
-/
import Derived.Test.YteaglhkacfcgfaaRxT
namespace Go.Proofs.Yteaglhkacfcgfaa
open Go Go.Rx Go.RowKit

theorem eval_subC (σ : Nat → Int) (a b c : Exp) : (Exp.subC a b c).eval σ = if a.eval σ < b.eval σ + c.eval σ then 1 else 0 := rfl
theorem eval_subS (σ : Nat → Int) (a b c : Exp) : (Exp.subS a b c).eval σ = (a.eval σ - b.eval σ - c.eval σ) % 18446744073709551616 := rfl
def borrowE : Nat → Exp
  | 0 => .lit 0
  | i + 1 => .subC (.inp .u64 i) (.inp .u64 (8 + i)) (borrowE i)
def diffE (i : Nat) : Exp := .subS (.inp .u64 i) (.inp .u64 (8 + i)) (borrowE i)
theorem lex_lt (B x y r s : Nat) (hr : r < B) (hs : s < B) : B * x + r < B * y + s ↔ x < y + (if r < s then 1 else 0) := by
  have mono : ∀ p q : Nat, p < q → B * p + B ≤ B * q := fun p q h => by
    have := Nat.mul_le_mul_left B (Nat.succ_le_of_lt h)
    rwa [Nat.mul_succ] at this
  rcases Nat.lt_trichotomy x y with h | h | h
  · have := mono x y h
    split <;> omega
  · subst h
    split <;> omega
  · have := mono y x h
    split <;> omega
theorem borrow_eval (m n : Nat) : ∀ i, i ≤ 8 → (borrowE i).eval (sig2 m n) = if m % 2 ^ (64 * i) < n % 2 ^ (64 * i) then 1 else 0
  | 0, _ => by simp [borrowE, Exp.eval, Nat.mod_one]
  | i + 1, h => by
    rw [borrowE, eval_subC, inp_sig2 m n i (by omega), inp_sig2' m n i, borrow_eval m n i (by omega), low_step, low_step]
    have hB : 0 < 2 ^ (64 * i) := Nat.pow_pos (by decide)
    have hl := lex_lt (2 ^ (64 * i)) (dig m i) (dig n i) _ _ (Nat.mod_lt m hB) (Nat.mod_lt n hB)
    generalize 2 ^ (64 * i) = B at *
    by_cases hc : m % B < n % B
    · simp only [hc, if_true] at hl ⊢
      by_cases hd : dig m i < dig n i + 1
      · rw [if_pos (hl.2 hd), if_pos (by omega)]
      · rw [if_neg (fun k => hd (hl.1 k)), if_neg (by omega)]
    · simp only [hc, if_false] at hl ⊢
      by_cases hd : dig m i < dig n i + 0
      · rw [if_pos (hl.2 hd), if_pos (by omega)]
      · rw [if_neg (fun k => hd (hl.1 k)), if_neg (by omega)]
theorem dvd512 (i : Nat) (h : i ≤ 8) : 2 ^ (64 * i) ∣ 13407807929942597099574024998205846127479365820592393377723561443721764030073546976801874298166903427690031858186486050853753882811946569946433649006084096 := ⟨_, p2_split i h⟩
theorem diff_eval (m n i : Nat) (h : i < 8) (hn : n < 13407807929942597099574024998205846127479365820592393377723561443721764030073546976801874298166903427690031858186486050853753882811946569946433649006084096) : (diffE i).eval (sig2 m n) = dig (m + 13407807929942597099574024998205846127479365820592393377723561443721764030073546976801874298166903427690031858186486050853753882811946569946433649006084096 - n) i := by
  rw [diffE, eval_subS, inp_sig2 m n i h, inp_sig2' m n i, borrow_eval m n i (by omega)]
  have hB : 0 < 2 ^ (64 * i) := Nat.pow_pos (by decide)
  have hz : ∃ z, m + 13407807929942597099574024998205846127479365820592393377723561443721764030073546976801874298166903427690031858186486050853753882811946569946433649006084096 - n = z ∧ z + n = m + 13407807929942597099574024998205846127479365820592393377723561443721764030073546976801874298166903427690031858186486050853753882811946569946433649006084096 := ⟨_, rfl, Nat.sub_add_cancel (Nat.le_of_lt (Nat.lt_of_lt_of_le hn (Nat.le_add_left _ _)))⟩
  obtain ⟨z, hz1, hz2⟩ := hz
  rw [hz1]
  have hs := sum_digit z n i
  rw [hz2] at hs
  have hd : dig (m + 13407807929942597099574024998205846127479365820592393377723561443721764030073546976801874298166903427690031858186486050853753882811946569946433649006084096) i = dig m i := by
    rw [← dig_mod (m + 13407807929942597099574024998205846127479365820592393377723561443721764030073546976801874298166903427690031858186486050853753882811946569946433649006084096) i h, Nat.add_mod_right, dig_mod m i h]
  rw [hd] at hs
  have hmod : (z % 2 ^ (64 * i) + n % 2 ^ (64 * i)) % 2 ^ (64 * i) = m % 2 ^ (64 * i) := by
    rw [← Nat.add_mod, hz2]
    obtain ⟨q, hq⟩ := dvd512 i (by omega)
    rw [hq, Nat.add_mul_mod_self_left]
  have hzl := Nat.mod_lt z hB
  have hnl := Nat.mod_lt n hB
  have hml := Nat.mod_lt m hB
  have d1 := dig_lt z i
  have d2 := dig_lt n i
  have d3 := dig_lt m i
  generalize 2 ^ (64 * i) = B at *
  have hp : (2 : Nat) ^ 64 = 18446744073709551616 := by decide
  rw [hp] at hs
  by_cases hc : z % B + n % B < B
  · rw [Nat.mod_eq_of_lt hc] at hmod
    rw [Nat.div_eq_of_lt hc] at hs
    rw [if_neg (by omega)]
    omega
  · have e1 : (z % B + n % B) / B = 1 := by
      rw [Nat.div_eq_sub_div hB (by omega), Nat.div_eq_of_lt (by omega)]
    have e2 : (z % B + n % B) % B = z % B + n % B - B := by
      rw [Nat.mod_eq_sub_mod (by omega), Nat.mod_eq_of_lt (by omega)]
    rw [e2] at hmod
    rw [e1] at hs
    rw [if_pos (by omega)]
    omega
/-- (magnitude).difference. -/
theorem f_diff (m n : Nat) (hn : n < 13407807929942597099574024998205846127479365820592393377723561443721764030073546976801874298166903427690031858186486050853753882811946569946433649006084096) : Gives Try.prog 78 [magV m, magV n] (magV (m + 13407807929942597099574024998205846127479365820592393377723561443721764030073546976801874298166903427690031858186486050853753882811946569946433649006084096 - n)) := by
  have := run_gives (sig2 m n) [] [] (fun r h => (by cases h)) (fun t h => (by cases h)) ⟨78, [inW 0, inW 8], .s (w8 diffE)⟩ 100 (fun σ => by kernel_rfl)
  simp only [List.map_cons, List.map_nil, val_in0, val_in8, valV] at this
  rw [val_w8 (sig2 m n) diffE (m + 13407807929942597099574024998205846127479365820592393377723561443721764030073546976801874298166903427690031858186486050853753882811946569946433649006084096 - n) (fun i hi => diff_eval m n i hi hn)] at this
  exact this

/-! ### Comparing -/
def cmpI (a b : Int) : Int := if a < b then -1 else if b < a then 1 else 0
def i1 (n : Int) : V1 := .one (.v (.int .i64 n))
def e1 (k : IntKind) (i : Nat) : V1 := .one (.ex k (.inp k i))
def sigA (a b : Int) (i : Nat) : Int := if i = 0 then a else b
theorem f_cmp64 (a b : Int) (ha : 0 ≤ a ∧ a < 18446744073709551616) (hb : 0 ≤ b ∧ b < 18446744073709551616) : Gives Try.prog 77 [.int .u64 a, .int .u64 b] (.int .i64 (cmpI a b)) := by
  have ea : (Exp.inp .u64 0).eval (sigA a b) = a := by simp only [Exp.eval, wrap_u64, sigA]; simp; omega
  have eb : (Exp.inp .u64 1).eval (sigA a b) = b := by simp only [Exp.eval, wrap_u64, sigA]; simp; omega
  have key : ∀ (lt gt : Bool) (r : Int), decide (a < b) = lt → decide (a > b) = gt → (lt = true → r = -1) → (lt = false → gt = true → r = 1) → (lt = false → gt = false → r = 0) → Gives Try.prog 77 [.int .u64 a, .int .u64 b] (.int .i64 r) := by
    intro lt gt r h1 h2 h3 h4 h5
    have ht : ∀ t ∈ [(⟨.neq, .inp .u64 0, .inp .u64 0, false⟩ : Test), ⟨.neq, .inp .u64 1, .inp .u64 1, false⟩, ⟨.lss, .inp .u64 0, .inp .u64 1, lt⟩, ⟨.gtr, .inp .u64 0, .inp .u64 1, gt⟩], TestOk (sigA a b) t := by
      intro t ht k
      simp only [List.mem_cons, List.not_mem_nil, or_false] at ht
      rcases ht with rfl | rfl | rfl | rfl <;> simp only [intBin, ea, eb, h1, h2] <;> simp
    have h6 : r = if lt then -1 else if gt then 1 else 0 := by
      cases lt <;> cases gt <;> simp_all
    have := run_gives (sigA a b) [] _ (fun r h => (by cases h)) ht ⟨77, [e1 .u64 0, e1 .u64 1], .s (i1 (if lt then -1 else if gt then 1 else 0))⟩ 100 (fun σ => by cases lt <;> cases gt <;> kernel_rfl)
    simp only [List.map_cons, List.map_nil, val1, valC, e1, i1, valV, ea, eb] at this
    rw [h6]; exact this
  refine key _ _ _ rfl rfl (fun h => ?_) (fun h h' => ?_) (fun h h' => ?_)
  · simp only [decide_eq_true_eq] at h; simp [cmpI, h]
  · simp only [decide_eq_true_eq, decide_eq_false_iff_not] at h h'; simp only [cmpI]; rw [if_neg h, if_pos h']
  · simp only [decide_eq_false_iff_not] at h h'; simp only [cmpI]; rw [if_neg h, if_neg h']
end Go.Proofs.Yteaglhkacfcgfaa
