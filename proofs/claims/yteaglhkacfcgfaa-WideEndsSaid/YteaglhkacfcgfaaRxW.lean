/-
  Contracts of package wide, for every value: the order of wide integers, and their signs.
-/
import Derived.Test.YteaglhkacfcgfaaRxV
namespace Go.Proofs.Yteaglhkacfcgfaa
open Go Go.Rx Go.RowKit

/-- Letters that stand for the words of numbers, eight a number. -/
def sigN (f : Nat → Nat) (i : Nat) : Int := dig (f (i / 8)) (i % 8)
theorem inp_sigN (f : Nat → Nat) (k i : Nat) (h : i < 8) : (Exp.inp .u64 (8 * k + i)).eval (sigN f) = dig (f k) i := by
  have := dig_lt (f k) i
  simp only [Exp.eval, wrap_u64, sigN, show (8 * k + i) / 8 = k by omega, show (8 * k + i) % 8 = i by omega]; omega
def inN (k : Nat) : V1 := inW (8 * k)
theorem val_inN (f : Nat → Nat) (k : Nat) : val1 (sigN f) (inN k) = magV (f k) := val_w8 _ _ _ fun i hi => inp_sigN f k i hi
theorem val_i1 (σ : Nat → Int) (n : Int) : val1 σ (i1 n) = .int .i64 n := rfl
theorem val_b1 (σ : Nat → Int) (b : Bool) : val1 σ (b1 b) = .bool b := rfl
theorem one_row {P : Program} {σ : Nat → Int} {r : Row} (h : RowGives P σ r) : ∀ q ∈ [r], RowGives P σ q := fun q hq => by
  simp only [List.mem_cons, List.not_mem_nil, or_false] at hq; subst hq; exact h
theorem no_row {P : Program} {σ : Nat → Int} : ∀ q ∈ ([] : List Row), RowGives P σ q := fun q hq => by cases hq
theorem more_row {P : Program} {σ : Nat → Int} {r : Row} {rs : List Row} (h : RowGives P σ r) (h' : ∀ q ∈ rs, RowGives P σ q) : ∀ q ∈ r :: rs, RowGives P σ q := fun q hq => by
  simp only [List.mem_cons] at hq
  rcases hq with rfl | hq
  · exact h
  · exact h' q hq
theorem no_test {σ : Nat → Int} : ∀ t ∈ ([] : List Test), TestOk σ t := fun q hq => by cases hq

theorem wrap_i64 (n : Int) (h : -9223372036854775808 ≤ n ∧ n < 9223372036854775808) : IntKind.i64.wrap n = n := by
  simp only [IntKind.wrap, IntKind.signed, IntKind.bits]
  simp
  omega
theorem wrap_i64w (t : Int) (h : 0 ≤ t ∧ t < 18446744073709551616) : IntKind.i64.wrap t = if t < 9223372036854775808 then t else t - 18446744073709551616 := by
  simp only [IntKind.wrap, IntKind.signed, IntKind.bits]
  simp
  split <;> omega
theorem f_cmp47 (a b : Int) (ha : -9223372036854775808 ≤ a ∧ a < 9223372036854775808) (hb : -9223372036854775808 ≤ b ∧ b < 9223372036854775808) : Gives Try.prog 47 [.int .i64 a, .int .i64 b] (.int .i64 (cmpI a b)) := by
  have ea : (Exp.inp .i64 0).eval (sigA a b) = a := wrap_i64 a ha
  have eb : (Exp.inp .i64 1).eval (sigA a b) = b := wrap_i64 b hb
  have key : ∀ (lt gt : Bool) (r : Int), decide (a < b) = lt → decide (a > b) = gt → (lt = true → r = -1) → (lt = false → gt = true → r = 1) → (lt = false → gt = false → r = 0) → Gives Try.prog 47 [.int .i64 a, .int .i64 b] (.int .i64 r) := by
    intro lt gt r h1 h2 h3 h4 h5
    have ht : ∀ t ∈ [(⟨.neq, .inp .i64 0, .inp .i64 0, false⟩ : Test), ⟨.neq, .inp .i64 1, .inp .i64 1, false⟩, ⟨.lss, .inp .i64 0, .inp .i64 1, lt⟩, ⟨.gtr, .inp .i64 0, .inp .i64 1, gt⟩], TestOk (sigA a b) t := by
      intro t ht k
      simp only [List.mem_cons, List.not_mem_nil, or_false] at ht
      rcases ht with rfl | rfl | rfl | rfl <;> simp only [intBin, ea, eb, h1, h2] <;> simp
    have h6 : r = if lt then -1 else if gt then 1 else 0 := by
      cases lt <;> cases gt <;> simp_all
    have := run_gives (sigA a b) [] _ (fun r h => (by cases h)) ht ⟨47, [e1 .i64 0, e1 .i64 1], .s (i1 (if lt then -1 else if gt then 1 else 0))⟩ 100 (fun σ => by cases lt <;> cases gt <;> kernel_rfl)
    simp only [List.map_cons, List.map_nil, val1, valC, e1, i1, valV, ea, eb] at this
    rw [h6]; exact this
  refine key _ _ _ rfl rfl (fun h => ?_) (fun h h' => ?_) (fun h h' => ?_)
  · simp only [decide_eq_true_eq] at h; simp [cmpI, h]
  · simp only [decide_eq_true_eq, decide_eq_false_iff_not] at h h'; simp only [cmpI]; rw [if_neg h, if_pos h']
  · simp only [decide_eq_false_iff_not] at h h'; simp only [cmpI]; rw [if_neg h, if_neg h']

/-! ### Wide integers -/
def P512 : Int := 13407807929942597099574024998205846127479365820592393377723561443721764030073546976801874298166903427690031858186486050853753882811946569946433649006084096
def P511 : Int := 6703903964971298549787012499102923063739682910296196688861780721860882015036773488400937149083451713845015929093243025426876941405973284973216824503042048
def fit (x : Int) : Prop := -P511 ≤ x ∧ x < P511
instance (x : Int) : Decidable (fit x) := inferInstanceAs (Decidable (_ ∧ _))
/-- The number whose words a wide integer has. -/
def un (x : Int) : Nat := (x % P512).toNat
/-- A wide integer. -/
def W (x : Int) : Value := magV (un x)
theorem p512_nat : ((13407807929942597099574024998205846127479365820592393377723561443721764030073546976801874298166903427690031858186486050853753882811946569946433649006084096 : Nat) : Int) = P512 := by kernel_rfl
theorem un_pos {x : Int} (h : fit x) (h0 : 0 ≤ x) : (un x : Int) = x := by
  unfold un fit P511 P512 at *; omega
theorem un_neg {x : Int} (h : fit x) (h0 : x < 0) : (un x : Int) = x + P512 := by
  unfold un fit P511 P512 at *; omega
theorem un_lt (x : Int) : un x < 13407807929942597099574024998205846127479365820592393377723561443721764030073546976801874298166903427690031858186486050853753882811946569946433649006084096 := by
  have h := p512_nat
  unfold un P512 at *; omega
theorem p448_eq : 2 ^ (64 * 7) = 726838724295606890549323807888004534353641360687318060281490199180639288113397923326191050713763565560762521606266177933534601628614656 := by kernel_rfl
/-- The highest word with its sign. -/
def topw (n : Nat) : Int := if (dig n 7 : Int) < 9223372036854775808 then (dig n 7 : Int) else dig n 7 - 18446744073709551616
theorem topw_split {x : Int} (h : fit x) : ∃ r : Nat, r < 726838724295606890549323807888004534353641360687318060281490199180639288113397923326191050713763565560762521606266177933534601628614656 ∧ x = topw (un x) * ((726838724295606890549323807888004534353641360687318060281490199180639288113397923326191050713763565560762521606266177933534601628614656 : Nat) : Int) + r ∧ (un x : Int) = (dig (un x) 7 : Int) * ((726838724295606890549323807888004534353641360687318060281490199180639288113397923326191050713763565560762521606266177933534601628614656 : Nat) : Int) + r := by
  refine ⟨un x % 726838724295606890549323807888004534353641360687318060281490199180639288113397923326191050713763565560762521606266177933534601628614656, Nat.mod_lt _ (by decide), ?_, ?_⟩
  all_goals
    try unfold topw
    have hl := low_step (un x) 7
    rw [show 64 * (7 + 1) = 64 * 8 by decide, p2_eight, p448_eq, Nat.mod_eq_of_lt (un_lt x)] at hl
    have hr := Nat.mod_lt (un x) (show 0 < 726838724295606890549323807888004534353641360687318060281490199180639288113397923326191050713763565560762521606266177933534601628614656 by decide)
    have hd := dig_lt (un x) 7
    generalize dig (un x) 7 = d at *
    generalize un x % 726838724295606890549323807888004534353641360687318060281490199180639288113397923326191050713763565560762521606266177933534601628614656 = r at *
  · by_cases h0 : 0 ≤ x
    · have hu := un_pos h h0
      unfold fit P511 at h
      rw [if_pos (by omega)]; omega
    · have hu := un_neg h (by omega)
      unfold fit P511 P512 at *
      rw [if_neg (by omega)]; omega
  · omega
theorem cmpI_lex (B x y r s : Int) (hr : 0 ≤ r ∧ r < B) (hs : 0 ≤ s ∧ s < B) : cmpI (x * B + r) (y * B + s) = if cmpI x y = 0 then cmpI r s else cmpI x y := by
  have mono : ∀ p q : Int, p < q → p * B + B ≤ q * B := fun p q h => by
    have := Int.mul_le_mul_of_nonneg_right (show p + 1 ≤ q by omega) (show 0 ≤ B by omega)
    rw [Int.add_mul] at this; omega
  rcases Int.lt_trichotomy x y with h | h | h
  · have := mono x y h
    have e : cmpI x y = -1 := by unfold cmpI; rw [if_pos h]
    rw [e, if_neg (by decide)]
    unfold cmpI; rw [if_pos (by omega)]
  · subst h
    have e : cmpI x x = 0 := by unfold cmpI; rw [if_neg (by omega), if_neg (by omega)]
    rw [e, if_pos rfl]
    unfold cmpI
    by_cases c1 : r < s
    · rw [if_pos c1, if_pos (by omega)]
    · rw [if_neg c1, if_neg (by omega)]
      by_cases c2 : s < r
      · rw [if_pos c2, if_pos (by omega)]
      · rw [if_neg c2, if_neg (by omega)]
  · have := mono y x h
    have e : cmpI x y = 1 := by unfold cmpI; rw [if_neg (by omega), if_pos h]
    rw [e, if_neg (by decide)]
    unfold cmpI; rw [if_neg (by omega), if_pos (by omega)]
theorem cmp_wide {x y : Int} (hx : fit x) (hy : fit y) : cmpI x y = if cmpI (topw (un x)) (topw (un y)) = 0 then cmpI (un x) (un y) else cmpI (topw (un x)) (topw (un y)) := by
  obtain ⟨r, hr, e1, e2⟩ := topw_split hx
  obtain ⟨s, hs, e3, e4⟩ := topw_split hy
  have hr' : (0 : Int) ≤ r ∧ (r : Int) < ((726838724295606890549323807888004534353641360687318060281490199180639288113397923326191050713763565560762521606266177933534601628614656 : Nat) : Int) := ⟨by omega, by exact_mod_cast hr⟩
  have hs' : (0 : Int) ≤ s ∧ (s : Int) < ((726838724295606890549323807888004534353641360687318060281490199180639288113397923326191050713763565560762521606266177933534601628614656 : Nat) : Int) := ⟨by omega, by exact_mod_cast hs⟩
  have k1 := cmpI_lex _ (topw (un x)) (topw (un y)) r s hr' hs'
  have k2 := cmpI_lex _ (dig (un x) 7) (dig (un y) 7) r s hr' hs'
  rw [← e1, ← e3] at k1
  rw [← e2, ← e4] at k2
  rw [k1]
  split
  · rename_i hz
    rw [k2]
    have ht : topw (un x) = topw (un y) := by
      unfold cmpI at hz
      split at hz
      · omega
      · split at hz <;> omega
    have hd : (dig (un x) 7 : Int) = dig (un y) 7 := by
      have := dig_lt (un x) 7
      have := dig_lt (un y) 7
      unfold topw at ht
      split at ht <;> split at ht <;> omega
    rw [hd]
    have e : cmpI (dig (un y) 7) (dig (un y) 7) = 0 := by unfold cmpI; rw [if_neg (by omega), if_neg (by omega)]
    rw [if_pos e]
  · rfl

def topE (i : Nat) : V1 := .one (.ex .i64 (.wrap .i64 (.inp .u64 i)))
def tri (r : Int) : Prop := r = -1 ∨ r = 0 ∨ r = 1
theorem cmpI_tri (a b : Int) : tri (cmpI a b) := by have := cmpI_range a b; unfold tri; omega
theorem cmp17_run (σ : Nat → Int) (r q : Int) (h : tri r) (h' : tri q) : runs σ [⟨47, [topE 7, topE 15], .s (i1 r)⟩, ⟨48, [inN 0, inN 1], .s (i1 q)⟩] [] ⟨17, [inN 0, inN 1], .s (i1 (if r = 0 then q else r))⟩ 100 = true := by
  rcases h with rfl | rfl | rfl <;> rcases h' with rfl | rfl | rfl <;> kernel_rfl
theorem top_val (f : Nat → Nat) (k : Nat) : val1 (sigN f) (topE (8 * k + 7)) = .int .i64 (topw (f k)) := by
  have h := inp_sigN f k 7 (by decide)
  have hd := dig_lt (f k) 7
  simp only [topE, val1, valC]
  simp only [Exp.eval] at h ⊢
  rw [h, wrap_i64w _ ⟨by omega, by omega⟩]
  rfl
theorem topw_range (n : Nat) : -9223372036854775808 ≤ topw n ∧ topw n < 9223372036854775808 := by
  have := dig_lt n 7
  unfold topw; split <;> omega
def two2 (m n : Nat) (i : Nat) : Nat := if i = 0 then m else n
/-- Cmp. -/
theorem f_Cmp (x y : Int) (hx : fit x) (hy : fit y) : Gives Try.prog 17 [W x, W y] (.int .i64 (cmpI x y)) := by
  have r1 : RowGives Try.prog (sigN (two2 (un x) (un y))) ⟨47, [topE 7, topE 15], .s (i1 (cmpI (topw (un x)) (topw (un y))))⟩ := by
    refine ⟨rfl, ?_⟩
    have hf := f_cmp47 _ _ (topw_range (un x)) (topw_range (un y))
    have e0 := top_val (two2 (un x) (un y)) 0
    have e1 := top_val (two2 (un x) (un y)) 1
    simp only [List.map_cons, List.map_nil]
    rw [show topE 7 = topE (8 * 0 + 7) from rfl, show topE 15 = topE (8 * 1 + 7) from rfl, e0, e1]
    exact hf
  have r2 : RowGives Try.prog (sigN (two2 (un x) (un y))) ⟨48, [inN 0, inN 1], .s (i1 (cmpI (un x) (un y)))⟩ := by
    refine ⟨rfl, ?_⟩
    simp only [List.map_cons, List.map_nil, val_inN]
    exact f_compare _ _ (un_lt x) (un_lt y)
  have := run_gives _ _ [] (more_row r1 (one_row r2)) no_test ⟨17, [inN 0, inN 1], _⟩ 100 (fun σ => cmp17_run σ _ _ (cmpI_tri _ _) (cmpI_tri _ _))
  simp only [List.map_cons, List.map_nil, val_inN] at this
  rw [cmp_wide hx hy]
  exact this
end Go.Proofs.Yteaglhkacfcgfaa
