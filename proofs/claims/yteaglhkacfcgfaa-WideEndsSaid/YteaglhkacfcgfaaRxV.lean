/-
  Contracts of package wide, for every value: comparing magnitudes; zero; the sign.
-/
import Derived.Test.YteaglhkacfcgfaaRxU
namespace Go.Proofs.Yteaglhkacfcgfaa
open Go Go.Rx Go.RowKit

/-- Two magnitudes, and further numbers. -/
def sig3 (m n : Nat) (x : Nat → Int) (i : Nat) : Int := if i < 8 then (dig m i : Int) else if i < 16 then (dig n (i - 8) : Int) else x (i - 16)
theorem inp_sig3 (m n : Nat) (x : Nat → Int) (i : Nat) (h : i < 8) : (Exp.inp .u64 i).eval (sig3 m n x) = dig m i := by
  have := dig_lt m i
  simp only [Exp.eval, wrap_u64, sig3, h, if_true]; omega
theorem inp_sig3' (m n : Nat) (x : Nat → Int) (i : Nat) (h : i < 8) : (Exp.inp .u64 (8 + i)).eval (sig3 m n x) = dig n i := by
  have := dig_lt n i
  simp only [Exp.eval, wrap_u64, sig3, show ¬ (8 + i < 8) by omega, show 8 + i < 16 by omega, if_false, if_true, show 8 + i - 8 = i by omega]; omega
theorem inp_sig3x (m n : Nat) (x : Nat → Int) (k : IntKind) (i : Nat) : (Exp.inp k (16 + i)).eval (sig3 m n x) = k.wrap (x i) := by
  simp only [Exp.eval, sig3, show ¬ (16 + i < 8) by omega, show ¬ (16 + i < 16) by omega, if_false, show 16 + i - 16 = i by omega]
theorem val3_in0 (m n : Nat) (x : Nat → Int) : val1 (sig3 m n x) (inW 0) = magV m := val_w8 _ _ _ fun i hi => by
  have := inp_sig3 m n x i hi
  rwa [show 0 + i = i by omega]
theorem val3_in8 (m n : Nat) (x : Nat → Int) : val1 (sig3 m n x) (inW 8) = magV n := val_w8 _ _ _ fun i hi => inp_sig3' m n x i hi

theorem map3 (m n : Nat) (x : Nat → Int) : [inW 0, inW 8].map (val1 (sig3 m n x)) = [magV m, magV n] := by rw [List.map_cons, List.map_cons, List.map_nil, val3_in0, val3_in8]
theorem val_out (m n : Nat) (x : Nat → Int) (k : IntKind) (i : Nat) : valV (sig3 m n x) (.s (.one (.ex k (.inp k (16 + i))))) = .int k (k.wrap (x i)) := by
  show Value.int k ((Exp.inp k (16 + i)).eval (sig3 m n x)) = _
  rw [inp_sig3x]
theorem cmpI_range (a b : Int) : -1 ≤ cmpI a b ∧ cmpI a b ≤ 1 := by
  unfold cmpI; split
  · omega
  · split <;> omega
theorem wrap_small (r : Int) (h : -1 ≤ r ∧ r ≤ 1) : IntKind.i64.wrap r = r := by
  have : r = -1 ∨ r = 0 ∨ r = 1 := by omega
  rcases this with rfl | rfl | rfl <;> decide

theorem div_step (m p : Nat) : m / 2 ^ (64 * p) = m / 2 ^ (64 * (p + 1)) * 2 ^ 64 + dig m p := by
  rw [pow_step, ← Nat.div_div_eq_div_mul, dig]
  have := Nat.div_add_mod (m / 2 ^ (64 * p)) (2 ^ 64)
  omega
theorem high_eq (m n j : Nat) (hm : m < 13407807929942597099574024998205846127479365820592393377723561443721764030073546976801874298166903427690031858186486050853753882811946569946433649006084096) (hn : n < 13407807929942597099574024998205846127479365820592393377723561443721764030073546976801874298166903427690031858186486050853753882811946569946433649006084096) (h : ∀ i, j ≤ i → i < 8 → dig m i = dig n i) : j ≤ 8 → m / 2 ^ (64 * j) = n / 2 ^ (64 * j) := by
  intro hj
  obtain ⟨k, hk⟩ : ∃ k, j + k = 8 := ⟨8 - j, by omega⟩
  induction k generalizing j with
  | zero =>
    have : j = 8 := by omega
    subst this
    rw [p2_eight, Nat.div_eq_of_lt hm, Nat.div_eq_of_lt hn]
  | succ k ih =>
    rw [div_step m j, div_step n j, ih (j + 1) (fun i h1 h2 => h i (by omega) h2) (by omega) (by omega), h j (Nat.le_refl _) (by omega)]
theorem cmp_dig (m n j : Nat) (hm : m < 13407807929942597099574024998205846127479365820592393377723561443721764030073546976801874298166903427690031858186486050853753882811946569946433649006084096) (hn : n < 13407807929942597099574024998205846127479365820592393377723561443721764030073546976801874298166903427690031858186486050853753882811946569946433649006084096) (hj : j < 8) (h : ∀ i, j < i → i < 8 → dig m i = dig n i) (h0 : dig m j ≠ dig n j ∨ j = 0) : cmpI (dig m j) (dig n j) = cmpI m n := by
  have hq := high_eq m n (j + 1) hm hn (fun i h1 h2 => h i (by omega) h2) (by omega)
  have hB : 0 < 2 ^ (64 * j) := Nat.pow_pos (by decide)
  have em := low_step m j
  have en := low_step n j
  have dm := Nat.div_add_mod m (2 ^ (64 * (j + 1)))
  have dn := Nat.div_add_mod n (2 ^ (64 * (j + 1)))
  have hl := lex_lt (2 ^ (64 * j)) (dig m j) (dig n j) _ _ (Nat.mod_lt m hB) (Nat.mod_lt n hB)
  have hl' := lex_lt (2 ^ (64 * j)) (dig n j) (dig m j) _ _ (Nat.mod_lt n hB) (Nat.mod_lt m hB)
  have hz : j = 0 → m % 2 ^ (64 * j) = 0 ∧ n % 2 ^ (64 * j) = 0 := fun e => by subst e; simp [Nat.mod_one]
  rw [hq] at dm
  have hlt : dig m j < dig n j ↔ m < n := by
    constructor
    · intro hc
      have := hl.2 (by omega)
      omega
    · intro hc
      have h1 := hl.1 (by omega)
      rcases h0 with h0 | h0
      · split at h1 <;> omega
      · have := hz h0
        rw [if_neg (by omega)] at h1
        omega
  have hgt : dig n j < dig m j ↔ n < m := by
    constructor
    · intro hc
      have := hl'.2 (by omega)
      omega
    · intro hc
      have h1 := hl'.1 (by omega)
      rcases h0 with h0 | h0
      · split at h1 <;> omega
      · have := hz h0
        rw [if_neg (by omega)] at h1
        omega
  unfold cmpI
  have a1 : ((dig m j : Int) < (dig n j : Int)) = ((m : Int) < (n : Int)) := by
    rw [Int.ofNat_lt, Int.ofNat_lt]; exact propext hlt
  have a2 : ((dig n j : Int) < (dig m j : Int)) = ((n : Int) < (m : Int)) := by
    rw [Int.ofNat_lt, Int.ofNat_lt]; exact propext hgt
  simp only [a1, a2]

def cmpTests (j : Nat) : List Test := ((List.range (7 - j)).map fun t => (⟨.neq, .inp .u64 (0 + (7 - t)), .inp .u64 (8 + (7 - t)), false⟩ : Test)) ++ (if j = 0 then [] else [⟨.neq, .inp .u64 (0 + j), .inp .u64 (8 + j), true⟩])
def cmpRow (j : Nat) : Row := ⟨77, [.one (.ex .u64 (.inp .u64 (0 + j))), .one (.ex .u64 (.inp .u64 (8 + j)))], .s (.one (.ex .i64 (.inp .i64 (16 + 0))))⟩
def outRow (f : FuncId) (l : List V1) (k : IntKind) : Row := ⟨f, l, .s (.one (.ex k (.inp k (16 + 0))))⟩
noncomputable def runs (σ : Nat → Int) (rs : List Row) (ts : List Test) (r : Row) (fuel : Nat) : Bool := r.l.all ok1 && okV r.v && isRun r (funX (envS σ rs ts) fuel r.f r.l ⟨.e, 0, 0⟩)
theorem cmp_run0 (σ : Nat → Int) : runs σ [cmpRow 0] (cmpTests 0) (outRow 48 [inW 0, inW 8] .i64) 100 = true := by kernel_rfl
theorem cmp_run1 (σ : Nat → Int) : runs σ [cmpRow 1] (cmpTests 1) (outRow 48 [inW 0, inW 8] .i64) 100 = true := by kernel_rfl
theorem cmp_run2 (σ : Nat → Int) : runs σ [cmpRow 2] (cmpTests 2) (outRow 48 [inW 0, inW 8] .i64) 100 = true := by kernel_rfl
theorem cmp_run3 (σ : Nat → Int) : runs σ [cmpRow 3] (cmpTests 3) (outRow 48 [inW 0, inW 8] .i64) 100 = true := by kernel_rfl
theorem cmp_run4 (σ : Nat → Int) : runs σ [cmpRow 4] (cmpTests 4) (outRow 48 [inW 0, inW 8] .i64) 100 = true := by kernel_rfl
theorem cmp_run5 (σ : Nat → Int) : runs σ [cmpRow 5] (cmpTests 5) (outRow 48 [inW 0, inW 8] .i64) 100 = true := by kernel_rfl
theorem cmp_run6 (σ : Nat → Int) : runs σ [cmpRow 6] (cmpTests 6) (outRow 48 [inW 0, inW 8] .i64) 100 = true := by kernel_rfl
theorem cmp_run7 (σ : Nat → Int) : runs σ [cmpRow 7] (cmpTests 7) (outRow 48 [inW 0, inW 8] .i64) 100 = true := by kernel_rfl
theorem cmp_run (j : Nat) (hj : j < 8) (σ : Nat → Int) : runs σ [cmpRow j] (cmpTests j) (outRow 48 [inW 0, inW 8] .i64) 100 = true := by
  have : j = 0 ∨ j = 1 ∨ j = 2 ∨ j = 3 ∨ j = 4 ∨ j = 5 ∨ j = 6 ∨ j = 7 := by omega
  rcases this with rfl | rfl | rfl | rfl | rfl | rfl | rfl | rfl
  · exact cmp_run0 σ
  · exact cmp_run1 σ
  · exact cmp_run2 σ
  · exact cmp_run3 σ
  · exact cmp_run4 σ
  · exact cmp_run5 σ
  · exact cmp_run6 σ
  · exact cmp_run7 σ
/-- (magnitude).compare. -/
theorem f_compare (m n : Nat) (hm : m < 13407807929942597099574024998205846127479365820592393377723561443721764030073546976801874298166903427690031858186486050853753882811946569946433649006084096) (hn : n < 13407807929942597099574024998205846127479365820592393377723561443721764030073546976801874298166903427690031858186486050853753882811946569946433649006084096) : Gives Try.prog 48 [magV m, magV n] (.int .i64 (cmpI m n)) := by
  have key : ∀ j, j < 8 → (∀ i, j < i → i < 8 → dig m i = dig n i) → (dig m j ≠ dig n j ∨ j = 0) → Gives Try.prog 48 [magV m, magV n] (.int .i64 (cmpI m n)) := by
    intro j hj h h0
    let x : Nat → Int := fun _ => cmpI m n
    have e0 := inp_sig3 m n x
    have e8 := inp_sig3' m n x
    have ht : ∀ t ∈ cmpTests j, TestOk (sig3 m n x) t := by
      intro t ht k
      simp only [cmpTests, List.mem_append, List.mem_map, List.mem_range] at ht
      rcases ht with ⟨q, hq, rfl⟩ | ht
      · simp only [intBin]
        rw [Nat.zero_add, e0 (7 - q) (by omega), e8 (7 - q) (by omega), h (7 - q) (by omega) (by omega)]
        simp
      · split at ht
        · cases ht
        · rename_i hj0
          simp only [List.mem_cons, List.not_mem_nil, or_false] at ht
          subst ht
          simp only [intBin]
          rw [Nat.zero_add, e0 j hj, e8 j hj]
          have hne := h0.resolve_right hj0
          congr 2
          simp only [bne_iff_ne, ne_eq]
          omega
    have hr : ∀ r ∈ [cmpRow j], RowGives Try.prog (sig3 m n x) r := by
      intro r hr
      simp only [List.mem_cons, List.not_mem_nil, or_false] at hr
      subst hr
      refine ⟨rfl, ?_⟩
      have hf := f_cmp64 (dig m j) (dig n j) ⟨by omega, by have := dig_lt m j; omega⟩ ⟨by omega, by have := dig_lt n j; omega⟩
      rw [cmp_dig m n j hm hn hj h h0] at hf
      simp only [cmpRow, List.map_cons, List.map_nil, val1, valC, valV]
      rw [Nat.zero_add, e0 j hj, e8 j hj, inp_sig3x m n x .i64 0, wrap_small _ (cmpI_range _ _)]
      exact hf
    have := run_gives (sig3 m n x) [cmpRow j] (cmpTests j) hr ht (outRow 48 [inW 0, inW 8] .i64) 100 (cmp_run j hj)
    simp only [outRow] at this
    rw [map3, val_out] at this
    rw [wrap_small _ (cmpI_range _ _)] at this
    exact this
  have find : ∀ k, k ≤ 7 → (∀ i, k < i → i < 8 → dig m i = dig n i) → Gives Try.prog 48 [magV m, magV n] (.int .i64 (cmpI m n)) := by
    intro k
    induction k with
    | zero => intro hk h; exact key 0 (by decide) h (.inr rfl)
    | succ k ih =>
      intro hk h
      by_cases he : dig m (k + 1) = dig n (k + 1)
      · exact ih (by omega) fun i h1 h2 => by
          by_cases hi : i = k + 1
          · subst hi; exact he
          · exact h i (by omega) h2
      · exact key (k + 1) (by omega) h (.inl he)
  exact find 7 (by decide) fun i h1 h2 => by omega
end Go.Proofs.Yteaglhkacfcgfaa
