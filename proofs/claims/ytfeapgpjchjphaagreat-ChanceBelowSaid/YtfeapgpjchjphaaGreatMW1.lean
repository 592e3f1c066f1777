/-
  Wide random numbers: numbers.
  Wide random numbers: the words of a candidate.
  Wide random numbers: the number of binary digits.
  Sums and differences of wide integers, where the program has no product.
-/
import Derived.Test.YtfeapgpjchjphaaGreatMEC
import Derived.Test.YtfeapgpjchjphaaGreatMN
import Derived.Lib.Hide
import Derived.Deep.RegionHeld3
import Derived.BigRegion
import Derived.Laws.BitsAllLaws
import Derived.Shelf.Small.Bits
import Derived.Shelf.Strconv.Itoa0
import Derived.Lib.ItoaNum
import Derived.Test.YtfeapgpjchjphaaGreatMG
set_option linter.all false
namespace Go.Proofs.YtfeapgpjchjphaaGreat
open Go Go.RowKit Go.Big
attribute [local instance] noAv
theorem mix_in (s : Int) : 0 ≤ mix s ∧ mix s < 18446744073709551616 := mix_range s
/-- The numbers drawn for one candidate of k binary digits. -/
def nd (k : Nat) : Nat := (k + 63) / 64
/-- The first n numbers from the state s, as one number. -/
def sumN : Nat → Int → Int
  | 0, _ => 0
  | n + 1, s => sumN n s + mix (stN n s) * (2 : Int) ^ (64 * n)
/-- The first n numbers from the state s. -/
def firstW : Nat → Int → List Int
  | 0, _ => []
  | n + 1, s => firstW n s ++ [mix (stN n s)]
/-- A candidate of k binary digits from the state s. -/
def candV (k : Nat) (s : Int) : Int := sumN (nd k) s % (2 : Int) ^ k
/-- The words of an array so far. -/
def partW (n : Nat) (s : Int) : List Int := firstW n s ++ List.replicate (8 - n) 0
theorem p64 (n : Nat) : (2 : Int) ^ (64 * (n + 1)) = 18446744073709551616 * (2 : Int) ^ (64 * n) := by
  rw [Nat.mul_add, Int.pow_add, Int.mul_comm]
  congr 1
theorem p64_pos (n : Nat) : (0 : Int) < 2 ^ n := Int.pow_pos (by decide)
theorem mul_range {m M P : Int} (h0 : 0 ≤ m) (h1 : m < M) (hP : 0 < P) : 0 ≤ m * P ∧ m * P + P ≤ M * P := by
  refine ⟨Int.mul_nonneg h0 (by omega), ?_⟩
  have := Int.mul_le_mul_of_nonneg_right (show m + 1 ≤ M by omega) (show 0 ≤ P by omega)
  rw [Int.add_mul, Int.one_mul] at this
  exact this
theorem sumN_range : ∀ (n : Nat) (s : Int), 0 ≤ sumN n s ∧ sumN n s < (2 : Int) ^ (64 * n)
  | 0, s => ⟨Int.le_refl _, by show (0 : Int) < 2 ^ 0; decide⟩
  | n + 1, s => by
    obtain ⟨a, b⟩ := sumN_range n s
    have hm := mix_in (stN n s)
    obtain ⟨c, d⟩ := mul_range hm.1 hm.2 (p64_pos (64 * n))
    rw [p64]
    show 0 ≤ sumN n s + mix (stN n s) * (2 : Int) ^ (64 * n) ∧ sumN n s + mix (stN n s) * (2 : Int) ^ (64 * n) < _
    omega
theorem firstW_len : ∀ (n : Nat) (s : Int), (firstW n s).length = n
  | 0, _ => rfl
  | n + 1, s => by simp [firstW, firstW_len n s]
theorem wval_app : ∀ (l : List Int) (x : Int), wval (l ++ [x]) = wval l + x * (2 : Int) ^ (64 * l.length)
  | [], x => by simp [wval]
  | y :: l, x => by
    show y + 18446744073709551616 * wval (l ++ [x]) = y + 18446744073709551616 * wval l + x * (2 : Int) ^ (64 * (l.length + 1))
    rw [wval_app l x, p64]
    generalize (2 : Int) ^ (64 * l.length) = P
    rw [Int.mul_add, Int.mul_left_comm, Int.add_assoc]
theorem wval_zeros : ∀ (m : Nat), wval (List.replicate m 0) = 0
  | 0 => rfl
  | m + 1 => by rw [List.replicate_succ]; simp [wval, wval_zeros m]
theorem wval_pad : ∀ (l : List Int) (m : Nat), wval (l ++ List.replicate m 0) = wval l
  | [], m => wval_zeros m
  | y :: l, m => by
    show y + 18446744073709551616 * wval (l ++ List.replicate m 0) = _
    rw [wval_pad l m]; rfl
theorem firstW_val : ∀ (n : Nat) (s : Int), wval (firstW n s) = sumN n s
  | 0, _ => rfl
  | n + 1, s => by
    show wval (firstW n s ++ [mix (stN n s)]) = sumN n s + _
    rw [wval_app, firstW_val n s, firstW_len]
theorem firstW_good : ∀ (n : Nat) (s : Int), wgood (firstW n s)
  | 0, _ => fun x hx => by cases hx
  | n + 1, s => by
    intro x hx
    simp only [firstW, List.mem_append, List.mem_singleton] at hx
    rcases hx with h | rfl
    · exact firstW_good n s x h
    · exact mix_in _
theorem partW_len {n : Nat} (h : n ≤ 8) (s : Int) : (partW n s).length = 8 := by
  simp [partW, firstW_len]; omega
theorem partW_set {n : Nat} (h : n < 8) (s y : Int) : (partW n s).set n y = firstW n s ++ [y] ++ List.replicate (8 - (n + 1)) 0 := by
  unfold partW
  rw [List.set_append_right _ _ (by rw [firstW_len]; exact Nat.le_refl _), firstW_len, Nat.sub_self, show 8 - n = (8 - (n + 1)) + 1 by omega, List.replicate_succ, List.set_cons_zero]
  simp
theorem partW_step {n : Nat} (h : n < 8) (s : Int) : (partW n s).set n (mix (stN n s)) = partW (n + 1) s := partW_set h s _
theorem partW_mask {n : Nat} (h : n < 8) (s y : Int) : (partW (n + 1) s).set n y = firstW n s ++ [y] ++ List.replicate (8 - (n + 1)) 0 := by
  rw [← partW_step h, List.set_set, partW_set h]
theorem partW_get {n : Nat} (h : n < 8) (s : Int) : (partW (n + 1) s).getD n 0 = mix (stN n s) := by
  rw [← partW_step h]
  simp [List.getD, partW_len (show n ≤ 8 by omega), h]
/-- The words of a candidate, as the code makes them. -/
def codeW (k : Nat) (s : Int) : List Int :=
  if k % 64 = 0 then partW (k / 64) s else firstW (k / 64) s ++ [mix (stN (k / 64) s) % (2 : Int) ^ (k % 64)] ++ List.replicate (8 - (k / 64 + 1)) 0
theorem mod_parts {a m P R : Int} (h0 : 0 ≤ a) (h1 : a < P) (hR : 0 < R) : (a + m * P) % (P * R) = a + m % R * P := by
  have d := Int.mul_ediv_add_emod m R
  have r0 := Int.emod_nonneg m (show R ≠ 0 by omega)
  have r1 := Int.emod_lt_of_pos m hR
  have e : a + m * P = (a + m % R * P) + P * R * (m / R) := by
    conv => lhs; rw [← d]
    rw [Int.add_mul, Int.mul_comm R, Int.mul_assoc (m / R), Int.mul_comm R P, Int.mul_comm (m / R)]
    omega
  rw [e, Int.add_mul_emod_self_left]
  obtain ⟨c, d⟩ := mul_range r0 r1 (show 0 < P by omega)
  refine Int.emod_eq_of_lt (by omega) ?_
  rw [Int.mul_comm P R]
  omega
theorem p_lt {r : Nat} (h : r ≤ 64) : (2 : Int) ^ r ≤ 18446744073709551616 := by
  have := Nat.pow_le_pow_right (show 0 < 2 by decide) h
  have h2 : (2 : Nat) ^ 64 = 18446744073709551616 := by decide
  have h3 : ((2 ^ r : Nat) : Int) = (2 : Int) ^ r := by rw [Int.natCast_pow]; rfl
  omega
theorem codeW_facts {k : Nat} (hk : k ≤ 511) (s : Int) : (codeW k s).length = 8 ∧ wgood (codeW k s) ∧ wval (codeW k s) = candV k s := by
  have hq : k / 64 < 8 := by omega
  unfold codeW candV nd
  by_cases h : k % 64 = 0
  · rw [if_pos h]
    refine ⟨partW_len (by omega) s, ?_, ?_⟩
    · intro x hx
      simp only [partW, List.mem_append] at hx
      rcases hx with hx | hx
      · exact firstW_good _ _ x hx
      · have := List.eq_of_mem_replicate hx
        omega
    · rw [show (k + 63) / 64 = k / 64 by omega]
      unfold partW
      rw [wval_pad, firstW_val]
      have hr := sumN_range (k / 64) s
      rw [show (2 : Int) ^ k = (2 : Int) ^ (64 * (k / 64)) by rw [show 64 * (k / 64) = k by omega]]
      exact (Int.emod_eq_of_lt hr.1 hr.2).symm
  · rw [if_neg h]
    have hm := mix_in (stN (k / 64) s)
    have r0 := Int.emod_nonneg (mix (stN (k / 64) s)) (show (2 : Int) ^ (k % 64) ≠ 0 by have := p64_pos (k % 64); omega)
    have r1 := Int.emod_lt_of_pos (mix (stN (k / 64) s)) (p64_pos (k % 64))
    have r2 := p_lt (show k % 64 ≤ 64 by omega)
    refine ⟨by simp [firstW_len]; omega, ?_, ?_⟩
    · intro x hx
      simp only [List.mem_append, List.mem_singleton] at hx
      rcases hx with (hx | rfl) | hx
      · exact firstW_good _ _ x hx
      · omega
      · have := List.eq_of_mem_replicate hx
        omega
    · rw [show (k + 63) / 64 = k / 64 + 1 by omega, wval_pad, wval_app, firstW_val, firstW_len]
      have hr := sumN_range (k / 64) s
      show _ = (sumN (k / 64) s + mix (stN (k / 64) s) * (2 : Int) ^ (64 * (k / 64))) % _
      rw [show (2 : Int) ^ k = (2 : Int) ^ (64 * (k / 64)) * (2 : Int) ^ (k % 64) by rw [← Int.pow_add, show 64 * (k / 64) + k % 64 = k by omega], mod_parts hr.1 hr.2 (p64_pos _)]
theorem candV_range (k : Nat) (s : Int) : 0 ≤ candV k s ∧ candV k s < (2 : Int) ^ k :=
  ⟨Int.emod_nonneg _ (by have := p64_pos k; omega), Int.emod_lt_of_pos _ (p64_pos k)⟩
theorem p_mono {a b : Nat} (h : a ≤ b) : (2 : Int) ^ a ≤ 2 ^ b := by
  have := Nat.pow_le_pow_right (show 0 < 2 by decide) h
  have h3 : ∀ r : Nat, ((2 ^ r : Nat) : Int) = (2 : Int) ^ r := fun r => by rw [Int.natCast_pow]; rfl
  have := h3 a
  have := h3 b
  omega
theorem stN_add (a : Nat) (s : Int) : ∀ b, stN (a + b) s = stN b (stN a s)
  | 0 => rfl
  | b + 1 => by show st (stN (a + b) s) = _; rw [stN_add a s b]; rfl
/-- n has L binary digits. -/
def IsLen (L : Nat) (n : Int) : Prop := n < (2 : Int) ^ L ∧ (L = 0 ∨ (2 : Int) ^ (L - 1) ≤ n)
theorem isLen_le {L M : Nat} {n : Int} (h : IsLen L n) (h' : n < (2 : Int) ^ M) : L ≤ M := by
  rcases h.2 with e | e
  · omega
  · by_cases hc : L ≤ M
    · exact hc
    · have := p_mono (show M ≤ L - 1 by omega)
      omega
theorem isLen_inj {L M : Nat} {n : Int} (h : IsLen L n) (h' : IsLen M n) : L = M := Nat.le_antisymm (isLen_le h h'.1) (isLen_le h' h.1)
/-- One more word. -/
theorem isLen_word {i l : Nat} {v y : Int} (hv : v < (2 : Int) ^ (64 * i)) (h0 : 0 ≤ v) (hy : 0 < y) (hl : IsLen l y) : IsLen (64 * i + l) (v + y * (2 : Int) ^ (64 * i)) := by
  have hl0 : l ≠ 0 := by
    rintro rfl
    have := hl.1
    have e : (2 : Int) ^ 0 = 1 := by decide
    omega
  have hP := p64_pos (64 * i)
  constructor
  · have h1 := Int.mul_le_mul_of_nonneg_right (show y + 1 ≤ (2 : Int) ^ l by have := hl.1; omega) (Int.le_of_lt hP)
    rw [Int.add_mul, Int.one_mul] at h1
    rw [Int.pow_add, Int.mul_comm ((2 : Int) ^ (64 * i))]
    omega
  · right
    have h2 : (2 : Int) ^ (l - 1) ≤ y := by
      rcases hl.2 with e | e
      · exact absurd e hl0
      · exact e
    have h1 := Int.mul_le_mul_of_nonneg_right h2 (Int.le_of_lt hP)
    rw [show 64 * i + l - 1 = 64 * i + (l - 1) by omega, Int.pow_add, Int.mul_comm ((2 : Int) ^ (64 * i))]
    omega
/-- The value of a candidate. -/
theorem codeW_W {k : Nat} (hk : k ≤ 511) (s : Int) : W (candV k s) = .agg ((codeW k s).map (Value.int .u64)).toArray ∧ fit (candV k s) := by
  obtain ⟨h1, h2, h3⟩ := codeW_facts hk s
  obtain ⟨c0, c1⟩ := candV_range k s
  have hp := p_mono hk
  have e511 : (2 : Int) ^ 511 = 6703903964971298549787012499102923063739682910296196688861780721860882015036773488400937149083451713845015929093243025426876941405973284973216824503042048 := by decide +kernel
  have hf : fits (candV k s) := by unfold fits; omega
  have hw := wint_of h1 h2 hf (by rw [h3, if_neg (by omega)])
  have := W_words h1 h2
  rw [hw] at this
  exact this
end Go.Proofs.YtfeapgpjchjphaaGreat
namespace Go.Proofs.YtfeapgpjchjphaaGreat
open Go Go.RowKit Go.Big
attribute [local instance] noAv
/-- Only block X is not as it was. -/
theorem But.trans {w w' w'' : World} {r : Option Nat} (h1 : w.grownBy w' r) (h2 : w'.grownBy w'' r) : w.grownBy w'' r :=
  ⟨h2.os.trans h1.os, h2.tape.trans h1.tape, h2.output.trans h1.output, Nat.le_trans h1.size h2.size, fun k hk hne => (h2.block k (Nat.lt_of_lt_of_le hk h1.size) hne).trans (h1.block k hk hne)⟩
theorem But.of {w w' : World} {r : Option Nat} (h : Below w.heap.size w w') : w.grownBy w' r := ⟨h.os, h.tape, h.output, h.size, fun k hk _ => h.block k hk⟩
theorem But.set {w w' : World} {X B : Nat} (h : w.grownBy w' (some X)) (hB : B = X ∨ w.heap.size ≤ B) (i : Nat) (v : Value) : w.grownBy (w'.setCell ⟨B, i, none⟩ v) (some X) :=
  ⟨h.os, h.tape, h.output, by simpa using h.size, fun k hk hne => by
    refine Eq.trans ?_ (h.block k hk hne)
    have : B ≠ k := by
      rintro rfl
      rcases hB with e | e
      · exact hne (by rw [e])
      · omega
    simp [World.setCell, Array.getElem?_modify, this]⟩
theorem eightC {W : World} {b : Nat} {t : TypeId} {v0 v1 v2 v3 v4 v5 v6 v7 : Value} (k : W.heap[b]? = some (.cells #[v0, v1, v2, v3, v4, v5, v6, v7] t)) :
    W.cell? ⟨b, 0, none⟩ = some v0 ∧ W.cell? ⟨b, 1, none⟩ = some v1 ∧ W.cell? ⟨b, 2, none⟩ = some v2 ∧ W.cell? ⟨b, 3, none⟩ = some v3 ∧ W.cell? ⟨b, 4, none⟩ = some v4 ∧ W.cell? ⟨b, 5, none⟩ = some v5 ∧ W.cell? ⟨b, 6, none⟩ = some v6 ∧ W.cell? ⟨b, 7, none⟩ = some v7 :=
  ⟨(cellOf k).trans rfl, (cellOf k).trans rfl, (cellOf k).trans rfl, (cellOf k).trans rfl, (cellOf k).trans rfl, (cellOf k).trans rfl, (cellOf k).trans rfl, (cellOf k).trans rfl⟩
theorem mask_val {r : Nat} (hr : r < 64) (y : Int) (h0 : 0 ≤ y) (h1 : y < 18446744073709551616) : bits BinOp.and IntKind.u64 y (IntKind.u64.wrap (IntKind.u64.wrap ((2 : Int) ^ r) - 1)) = y % (2 : Int) ^ r := by
  obtain ⟨u, rfl⟩ := Int.eq_ofNat_of_zero_le h0
  have e2 : (2 : Nat) ^ r ≤ 2 ^ 63 := Nat.pow_le_pow_right (by decide) (by omega)
  have e3 : (2 : Nat) ^ 63 = 9223372036854775808 := by decide
  have e4 := Nat.two_pow_pos r
  have e5 : (2 : Int) ^ r = ((2 ^ r : Nat) : Int) := by rw [Int.natCast_pow]; rfl
  rw [e5]
  have e6 : IntKind.u64.wrap ((2 ^ r : Nat) : Int) = ((2 ^ r : Nat) : Int) := by rw [wrap_u]; exact Int.emod_eq_of_lt (by omega) (by omega)
  have e7 : IntKind.u64.wrap (((2 ^ r : Nat) : Int) - 1) = ((2 ^ r - 1 : Nat) : Int) := by rw [wrap_u, Int.emod_eq_of_lt (by omega) (by omega)]; omega
  rw [e6, e7, u64_and_nat _ _ (by omega) (by omega), Nat.and_two_pow_sub_one_eq_mod]
  rfl
theorem But.set8 {w W : World} {X B : Nat} (h : w.grownBy W (some X)) (hB : w.heap.size ≤ B) (u0 u1 u2 u3 u4 u5 u6 u7 : Value) :
    w.grownBy ((((((((W.setCell ⟨B, 0, none⟩ u0).setCell ⟨B, 1, none⟩ u1).setCell ⟨B, 2, none⟩ u2).setCell ⟨B, 3, none⟩ u3).setCell ⟨B, 4, none⟩ u4).setCell ⟨B, 5, none⟩ u5).setCell ⟨B, 6, none⟩ u6).setCell ⟨B, 7, none⟩ u7) (some X) :=
  But.set (But.set (But.set (But.set (But.set (But.set (But.set (But.set h (.inr hB) 0 u0) (.inr hB) 1 u1) (.inr hB) 2 u2) (.inr hB) 3 u3) (.inr hB) 4 u4) (.inr hB) 5 u5) (.inr hB) 6 u6) (.inr hB) 7 u7
theorem heap_set8 {W : World} {T B : Nat} (h : T ≠ B) (u0 u1 u2 u3 u4 u5 u6 u7 : Value) :
    ((((((((W.setCell ⟨B, 0, none⟩ u0).setCell ⟨B, 1, none⟩ u1).setCell ⟨B, 2, none⟩ u2).setCell ⟨B, 3, none⟩ u3).setCell ⟨B, 4, none⟩ u4).setCell ⟨B, 5, none⟩ u5).setCell ⟨B, 6, none⟩ u6).setCell ⟨B, 7, none⟩ u7).heap[T]? = W.heap[T]? := by
  have s := fun (U : World) (i : Nat) (u : Value) => setFar (w := U) (a := ⟨B, i, none⟩) (T := T) h u
  rw [s, s, s, s, s, s, s, s]
theorem len_facts1 {k : Nat} (hk : k ≤ 511) : ∃ K : Int, K = (k : Int) ∧ (K + 64 - 1) / 64 = ((nd k : Nat) : Int) ∧ K % 64 = ((k % 64 : Nat) : Int) ∧ K / 64 = ((k / 64 : Nat) : Int) ∧ nd k ≤ 8 ∧ 0 ≤ K ∧ K ≤ 511 := by
  refine ⟨k, rfl, ?_⟩
  unfold nd
  omega
theorem len_facts2 {k : Nat} (hk : k ≤ 511) : (k % 64 = 0 → nd k = k / 64) ∧ (¬ k % 64 = 0 → nd k = k / 64 + 1) ∧ k / 64 < 8 ∧ k % 64 < 64 ∧ (0 : Int) ≤ ((k / 64 : Nat) : Int) ∧ ((k / 64 : Nat) : Int) < 8 ∧ (0 : Int) ≤ ((k % 64 : Nat) : Int) := by
  unfold nd; omega
def WdRel (w : World) (X : Nat) (s : Int) (D : Nat) (a : Value) (wr : World) : Prop :=
  ∃ i : Nat, a = .int .i64 i ∧ i ≤ D ∧ wr.heap[w.heap.size]? = some (.cells #[.int .u64 0, .int .u64 0, .int .u64 0, .int .u64 0, .int .u64 0, .int .u64 0, .int .u64 0, .int .u64 0] 26) ∧ wr.heap[w.heap.size + 1]? = some (.cells ((partW i s).map (Value.int .u64)).toArray 25) ∧ wr.heap[X]? = some (.cells #[.int .u64 (stN i s)] 88) ∧ w.grownBy wr (some X)
set_option maxHeartbeats 3200000 in
set_option maxRecDepth 100000 in
theorem cwords_c {w : World} {X k : Nat} {s : Int} (hX : w.heap[X]? = some (.cells #[.int .u64 s] 88)) (hk : k ≤ 511) :
    Calls Tryz.prog 66 #[.pointer (some ⟨X, 0, none⟩), .int .i64 (k : Int)] w (fun e w' => e = .returned (W (candV k s)) ∧ w'.heap[X]? = some (.cells #[.int .u64 (stN (nd k) s)] 88) ∧ w.grownBy w' (some X)) := by
  have lX := ltH hX
  obtain ⟨K, hK, hq, hr, hd, hnd, hK0, hK1⟩ := len_facts1 hk
  rw [← hK]
  clear hK
  obtain ⟨hD0, hD1, hq8, hr64, hqi0, hqi8, hri0⟩ := len_facts2 hk
  have xT1 : X ≠ w.heap.size + 1 := fun e => by rw [e] at lX; exact absurd lX (Nat.not_lt.2 (Nat.le_succ _))
  have xT0 : X ≠ w.heap.size := Nat.ne_of_lt lX
  have b0 := fun o o' => (heap2 w o o').1
  have b1 := fun o o' => (heap2 w o o').2
  have bel := fun o o' => next_below (w := w) (o := o) (o' := o')
  generalize hND : nd k = D at *
  generalize hQ : k / 64 = q at *
  generalize hR : k % 64 = r at *
  have HND := Lib.hid hND
  have HQ := Lib.hid hQ
  have HR := Lib.hid hR
  clear hND hQ hR
  go_enter Tryz.func66, Tryz.ntmps66
  go_wp2_with fail
  rw [hq]
  clear hq
  go_loopw [12] (WdRel w X s D) (fun i _ => D - (intOf i).toNat)
  case atStart => exact ⟨0, rfl, Nat.zero_le _, b0 _ _, b1 _ _, keepH hX (bel _ _), But.of (bel _ _)⟩
  case round =>
    obtain ⟨i, rfl, hi, k0, k1, kX, but⟩ := hrel
    by_cases h8 : D = i
    · subst h8
      clear b0 b1 bel hX
      have hpos : wr.heap[X]? = some (.cells #[.int .u64 (stN D s)] 88) := kX
      by_cases hr0 : r = 0
      · subst hr0
        obtain rfl := hD0 rfl
        have hcw : codeW k s = partW D s := by unfold codeW; rw [if_pos HR.out, HQ.out]
        have hW := (codeW_W hk s).1
        rw [hcw] at hW
        obtain ⟨a0, a1, a2, a3, a4, a5, a6, a7, hl⟩ := list8' (partW D s) (partW_len hnd s)
        rw [hl] at hW k1
        have kk1 : wr.heap[w.heap.size + 1]? = some (.cells #[.int .u64 a0, .int .u64 a1, .int .u64 a2, .int .u64 a3, .int .u64 a4, .int .u64 a5, .int .u64 a6, .int .u64 a7] 25) := k1
        obtain ⟨y0, y1, y2, y3, y4, y5, y6, y7⟩ := eightC k0
        have fz : ∀ j, wr.frozen? ⟨w.heap.size, j, none⟩ = false := fun j => frozenOf k0
        obtain ⟨x0, x1, x2, x3, x4, x5, x6, x7⟩ := eightC kk1
        have HW := Lib.hid hW
        have hfin := fun u0 u1 u2 u3 u4 u5 u6 u7 => But.set8 but (Nat.le_refl _) u0 u1 u2 u3 u4 u5 u6 u7
        have hX8 := fun u0 u1 u2 u3 u4 u5 u6 u7 => (heap_set8 (W := wr) (T := X) (B := w.heap.size) xT0 u0 u1 u2 u3 u4 u5 u6 u7).trans kX
        clear k0 k1 kk1 kX hW hl hcw but hpos
        go_wp2
        exact bodyPost_ret (v := .agg #[.int .u64 a0, .int .u64 a1, .int .u64 a2, .int .u64 a3, .int .u64 a4, .int .u64 a5, .int .u64 a6, .int .u64 a7]) (by simp [results, Tryz.results66, go_sem, y0, y1, y2, y3, y4, y5, y6, y7]) rfl ⟨by rw [HW.out]; rfl, hX8 _ _ _ _ _ _ _ _, hfin _ _ _ _ _ _ _ _⟩
      · have hr1 : 0 < r := Nat.pos_of_ne_zero hr0
        obtain rfl := hD1 hr0
        have hq7 : q < 8 := hq8
        have cq : wr.cell? ⟨w.heap.size + 1, q, none⟩ = some (.int .u64 (mix (stN q s))) := by
          rw [cellOf k1, List.getElem?_toArray, List.getElem?_map, ← partW_get hq7 s]
          have : q < (partW (q + 1) s).length := by rw [partW_len hnd]; exact hq7
          simp [List.getD, this]
        have fq : wr.frozen? ⟨w.heap.size + 1, q, none⟩ = false := frozenOf k1
        obtain ⟨w3, hw3⟩ : ∃ w3, w3 = (wr.setCell ⟨w.heap.size + 1, q, none⟩ (.int .u64 (mix (stN q s) % (2 : Int) ^ r))).drew := ⟨_, rfl⟩
        have g1 : w3.heap[w.heap.size + 1]? = some (.cells ((codeW k s).map (Value.int .u64)).toArray 25) := by
          rw [hw3]
          show (wr.setCell ⟨w.heap.size + 1, q, none⟩ (.int .u64 (mix (stN q s) % (2 : Int) ^ r))).heap[w.heap.size + 1]? = _
          rw [heap_setCell_same wr (w.heap.size + 1) q _ 25 _ k1]
          unfold codeW
          rw [if_neg (by rw [HR.out]; exact hr0), HQ.out, HR.out, ← partW_mask hq7]
          simp [List.map_set]
        have g0 : w3.heap[w.heap.size]? = some (.cells #[.int .u64 0, .int .u64 0, .int .u64 0, .int .u64 0, .int .u64 0, .int .u64 0, .int .u64 0, .int .u64 0] 26) := by
          rw [hw3]
          exact (setFar (a := ⟨w.heap.size + 1, q, none⟩) (T := w.heap.size) (by show w.heap.size ≠ w.heap.size + 1; exact Nat.ne_of_lt (Nat.lt_succ_self _)) _).trans k0
        have gX : w3.heap[X]? = some (.cells #[.int .u64 (stN (q + 1) s)] 88) := by
          rw [hw3]
          exact (setFar (a := ⟨w.heap.size + 1, q, none⟩) (T := X) (by show X ≠ w.heap.size + 1; exact xT1) _).trans kX
        have gb : w.grownBy w3 (some X) := by
          rw [hw3]
          have h := But.set but (.inr (Nat.le_succ _)) (B := w.heap.size + 1) q (.int .u64 (mix (stN q s) % (2 : Int) ^ r))
          exact ⟨h.os, h.tape, h.output, h.size, h.block⟩
        have hm := mask_val hr64 (mix (stN q s)) (mix_in _).1 (mix_in _).2
        have HW3 := Lib.hid hw3
        have HM := Lib.hid hm
        have hW := (codeW_W hk s).1
        obtain ⟨a0, a1, a2, a3, a4, a5, a6, a7, hl⟩ := list8' (codeW k s) (codeW_facts hk s).1
        rw [hl] at hW g1
        have kk1 : w3.heap[w.heap.size + 1]? = some (.cells #[.int .u64 a0, .int .u64 a1, .int .u64 a2, .int .u64 a3, .int .u64 a4, .int .u64 a5, .int .u64 a6, .int .u64 a7] 25) := g1
        obtain ⟨y0, y1, y2, y3, y4, y5, y6, y7⟩ := eightC g0
        have fz : ∀ j, w3.frozen? ⟨w.heap.size, j, none⟩ = false := fun j => frozenOf g0
        obtain ⟨x0, x1, x2, x3, x4, x5, x6, x7⟩ := eightC kk1
        have HW := Lib.hid hW
        have hfin := fun u0 u1 u2 u3 u4 u5 u6 u7 => But.set8 gb (Nat.le_refl _) u0 u1 u2 u3 u4 u5 u6 u7
        have hX8 := fun u0 u1 u2 u3 u4 u5 u6 u7 => (heap_set8 (W := w3) (T := X) (B := w.heap.size) xT0 u0 u1 u2 u3 u4 u5 u6 u7).trans gX
        clear hw3 hm hW k0 k1 kX but g0 g1 gX gb kk1 hl hD0 hD1 hnd hpos
        generalize mix (stN q s) = y at *
        go_wp2_with fail
        go_region
        rw [HM.out, ← HW3.out]
        clear HM HW3 cq fq
        go_wp2
        exact bodyPost_ret (v := .agg #[.int .u64 a0, .int .u64 a1, .int .u64 a2, .int .u64 a3, .int .u64 a4, .int .u64 a5, .int .u64 a6, .int .u64 a7]) (by simp [results, Tryz.results66, go_sem, y0, y1, y2, y3, y4, y5, y6, y7]) rfl ⟨by rw [HW.out]; rfl, hX8 _ _ _ _ _ _ _ _, hfin _ _ _ _ _ _ _ _⟩
    · have i0 : (0 : Int) ≤ (i : Int) := by omega
      have i1 : (i : Int) < (D : Int) := by omega
      have i8 : (i : Int) < 8 := by omega
      have n8 : i < 8 := by omega
      clear b0 b1 bel hX
      go_wp2_with fail
      refine (step_c (stN i s) kX).mono ?_
      rintro e w2 ⟨rfl, rfl⟩
      have xT : w.heap.size + 1 ≠ X := by omega
      have x0 : w.heap.size ≠ X := by omega
      have g1 : (wr.setCell ⟨X, 0, none⟩ (.int .u64 (st (stN i s)))).heap[w.heap.size + 1]? = some (.cells ((partW i s).map (Value.int .u64)).toArray 25) := (setFar (a := ⟨X, 0, none⟩) (by show w.heap.size + 1 ≠ X; exact xT) _).trans k1
      have g0 : (wr.setCell ⟨X, 0, none⟩ (.int .u64 (st (stN i s)))).heap[w.heap.size]? = _ := (setFar (a := ⟨X, 0, none⟩) (by show w.heap.size ≠ X; exact x0) _).trans k0
      have gX : (wr.setCell ⟨X, 0, none⟩ (.int .u64 (st (stN i s)))).heap[X]? = some (.cells #[.int .u64 (stN (i + 1) s)] 88) := heap_setCell_same wr X 0 _ 88 _ kX
      have gb := But.set but (.inl rfl) 0 (.int .u64 (st (stN i s)))
      generalize wr.setCell ⟨X, 0, none⟩ (.int .u64 (st (stN i s))) = w2 at *
      have c1 : ∃ v, w2.cell? ⟨w.heap.size + 1, i, none⟩ = some v := by
        have hlen : ((partW i s).map (Value.int .u64)).length = 8 := by rw [List.length_map, partW_len (Nat.le_of_lt n8)]
        rw [cellOf g1, List.getElem?_toArray]
        exact ⟨_, List.getElem?_eq_getElem (by rw [hlen]; exact n8)⟩
      obtain ⟨v, c1⟩ := c1
      have f1 : w2.frozen? ⟨w.heap.size + 1, i, none⟩ = false := frozenOf g1
      have hfin : WdRel w X s D (.int .i64 ((i : Int) + 1)) (w2.setCell ⟨w.heap.size + 1, i, none⟩ (.int .u64 (mix (stN i s)))) := by
        refine ⟨i + 1, rfl, by omega, (setFar (a := ⟨w.heap.size + 1, i, none⟩) (by show w.heap.size ≠ w.heap.size + 1; omega) _).trans g0, ?_, (setFar (a := ⟨w.heap.size + 1, i, none⟩) (by show X ≠ w.heap.size + 1; omega) _).trans gX, But.set gb (.inr (Nat.le_succ _)) i _⟩
        rw [heap_setCell_same w2 (w.heap.size + 1) i _ 25 _ g1, ← partW_step n8]
        simp [List.map_set]
      generalize mix (stN i s) = y at *
      clear g0 g1 gX gb k0 k1 kX but
      go_wp2
      go_roundw
      case rel => exact hfin
      case measure => simp [intOf]; omega
end Go.Proofs.YtfeapgpjchjphaaGreat
namespace Go.Proofs
open Go.Shelf
def Tryz.lays129_ren : Go.Shelf.Ren := ⟨fun | 129 => 79 | n => n, fun | 53 => 22 | 3 => 3 | 4 => 4 | 46 => 32 | 5 => 5 | 9 => 9 | n => n, fun | n => n⟩
theorem Tryz.lays129 : Go.Proofs.Lays.n129 Tryz.prog Tryz.lays129_ren := {
  mixed := by kernel_rfl
  f129 := Tryz.func79.trans (congrArg some (by kernel_rfl))
  t3 := Tryz.underlying3
  a3 := Tryz.isAgg3
  z3 := Tryz.sizeOf3
  v3 := Tryz.zeroValue3
  t4 := Tryz.underlying4
  a4 := Tryz.isAgg4
  z4 := Tryz.sizeOf4
  v4 := Tryz.zeroValue4
  t5 := Tryz.underlying5
  a5 := Tryz.isAgg5
  z5 := Tryz.sizeOf5
  v5 := Tryz.zeroValue5
  t9 := Tryz.underlying9
  a9 := Tryz.isAgg9
  z9 := Tryz.sizeOf9
  v9 := Tryz.zeroValue9
  t46 := Tryz.underlying32
  a46 := Tryz.isAgg32
  z46 := Tryz.sizeOf32
  v46 := Tryz.zeroValue32
  t53 := Tryz.underlying22
  a53 := Tryz.isAgg22
  z53 := Tryz.sizeOf22
  v53 := Tryz.zeroValue22 }
end Go.Proofs
namespace Go.Proofs.YtfeapgpjchjphaaGreat
open Go Go.RowKit Go.Big Go.Shelf
attribute [local instance] noAv
theorem isLen_bitLen {y : Int} (h0 : 0 < y) (h1 : y < 18446744073709551616) : IsLen (Lib.bitLen y.toNat) y ∧ Lib.bitLen y.toNat ≤ 64 := by
  obtain ⟨m, rfl⟩ := Int.eq_ofNat_of_zero_le (Int.le_of_lt h0)
  rw [Int.toNat_natCast]
  have h64 : (2 : Nat) ^ 64 = 18446744073709551616 := by decide
  have hm : m < 2 ^ 64 := by omega
  obtain ⟨l1, l2, l3⟩ := Lib.bitLenAux_bounds 64 m hm (by omega)
  have l4 : Lib.bitLen m ≤ 64 := Lib.bitLen_le m 64 (Nat.le_refl _) hm
  change 1 ≤ Lib.bitLen m at l1
  change 2 ^ (Lib.bitLen m - 1) ≤ m at l2
  change m < 2 ^ Lib.bitLen m at l3
  generalize Lib.bitLen m = L at *
  have hc : ∀ r : Nat, ((2 ^ r : Nat) : Int) = (2 : Int) ^ r := fun r => by rw [Int.natCast_pow]; rfl
  have c1 := hc L
  have c2 := hc (L - 1)
  refine ⟨⟨?_, .inr ?_⟩, l4⟩
  · rw [← c1]; omega
  · rw [← c2]; omega
theorem len64_c (x : Int) (w : World) (h0 : 0 ≤ x) (h1 : x < 18446744073709551616) : Calls Tryz.prog 79 #[.int .u64 x] w fun e w' => e = .returned (.int .i64 (Lib.bitLen x.toNat)) ∧ w' = w :=
  Any.bits_Len64 Tryz.lays129 x w h0 (by omega)
theorem wval_range : ∀ (l : List Int), wgood l → 0 ≤ wval l ∧ wval l < (2 : Int) ^ (64 * l.length)
  | [], _ => ⟨Int.le_refl _, by show (0 : Int) < 2 ^ 0; decide⟩
  | x :: l, h => by
    obtain ⟨a, b⟩ := wval_range l (fun y hy => h y (List.mem_cons_of_mem _ hy))
    have hx := h x List.mem_cons_self
    show 0 ≤ x + 18446744073709551616 * wval l ∧ x + 18446744073709551616 * wval l < (2 : Int) ^ (64 * (l.length + 1))
    rw [p64]
    generalize (2 : Int) ^ (64 * l.length) = P at *
    omega
theorem wval_take {ws : List Int} {i : Nat} (h : i < ws.length) : wval (ws.take (i + 1)) = wval (ws.take i) + ws.getD i 0 * (2 : Int) ^ (64 * i) := by
  rw [List.take_succ_eq_append_getElem h, wval_app, List.length_take, Nat.min_eq_left (Nat.le_of_lt h)]
  simp [List.getD, h]
theorem goodT {ws : List Int} (h : wgood ws) (i : Nat) : wgood (ws.take i) := fun x hx => h x (List.mem_of_mem_take hx)
/-- The words of an integer that is not negative. -/
theorem words_pos {n : Int} (h0 : 0 ≤ n) (hf : fit n) : ∃ a0 a1 a2 a3 a4 a5 a6 a7 : Int, wgood [a0, a1, a2, a3, a4, a5, a6, a7] ∧ wval [a0, a1, a2, a3, a4, a5, a6, a7] = n ∧ W n = .agg #[.int .u64 a0, .int .u64 a1, .int .u64 a2, .int .u64 a3, .int .u64 a4, .int .u64 a5, .int .u64 a6, .int .u64 a7] := by
  obtain ⟨a0, a1, a2, a3, a4, a5, a6, a7, hg, hi, he⟩ := words_of hf
  refine ⟨a0, a1, a2, a3, a4, a5, a6, a7, hg, ?_, he⟩
  have g0 := hg a0 (by simp)
  have g1 := hg a1 (by simp)
  have g2 := hg a2 (by simp)
  have g3 := hg a3 (by simp)
  have g4 := hg a4 (by simp)
  have g5 := hg a5 (by simp)
  have g6 := hg a6 (by simp)
  have g7 := hg a7 (by simp)
  have e7 : [a0, a1, a2, a3, a4, a5, a6, a7].getD 7 0 = a7 := rfl
  unfold wint at hi
  rw [e7] at hi
  simp only [wval] at hi ⊢
  split at hi <;> omega
theorem word_at (a0 a1 a2 a3 a4 a5 a6 a7 : Int) (i : Nat) (h : i < 8) : ∃ y : Int, y = [a0, a1, a2, a3, a4, a5, a6, a7].getD i 0 ∧ ∀ U,
    (Instr.index 26 (.agg #[.int .u64 a0, .int .u64 a1, .int .u64 a2, .int .u64 a3, .int .u64 a4, .int .u64 a5, .int .u64 a6, .int .u64 a7]) (.int .i64 (i : Int))).run Tryz.prog U = .ok (.int .u64 y) U := by
  match i, h with
  | 0, _ => exact ⟨a0, rfl, fun U => by kernel_rfl⟩
  | 1, _ => exact ⟨a1, rfl, fun U => by kernel_rfl⟩
  | 2, _ => exact ⟨a2, rfl, fun U => by kernel_rfl⟩
  | 3, _ => exact ⟨a3, rfl, fun U => by kernel_rfl⟩
  | 4, _ => exact ⟨a4, rfl, fun U => by kernel_rfl⟩
  | 5, _ => exact ⟨a5, rfl, fun U => by kernel_rfl⟩
  | 6, _ => exact ⟨a6, rfl, fun U => by kernel_rfl⟩
  | 7, _ => exact ⟨a7, rfl, fun U => by kernel_rfl⟩
/-- The digits counted so far. -/
def DgRel (w : World) (ws : List Int) (a b : Value) (wr : World) : Prop :=
  ∃ i L : Nat, a = .int .i64 L ∧ b = .int .i64 i ∧ i ≤ 8 ∧ L ≤ 64 * i ∧ IsLen L (wval (ws.take i)) ∧ Below w.heap.size w wr
set_option maxHeartbeats 3200000 in
set_option maxRecDepth 100000 in
theorem cdigits_c {w : World} {n : Int} (h0 : 0 ≤ n) (hf : fit n) : Calls Tryz.prog 63 #[W n] w (Gets (fun _ r => ∃ L : Nat, r = .int .i64 L ∧ L ≤ 512 ∧ IsLen L n) w) := by
  obtain ⟨a0, a1, a2, a3, a4, a5, a6, a7, hg, hv, he⟩ := words_pos h0 hf
  rw [he]
  have hix := word_at a0 a1 a2 a3 a4 a5 a6 a7
  have hl : [a0, a1, a2, a3, a4, a5, a6, a7].length = 8 := rfl
  have al := fun o => (Below.refl w.heap.size w).alloc (Nat.le_refl _) o
  clear he h0 hf
  go_enter Tryz.func63, Tryz.ntmps63
  go_wp2_with fail
  generalize hws : [a0, a1, a2, a3, a4, a5, a6, a7] = ws at *
  go_loopw [3, 7] (DgRel w ws) (fun _ i _ => 8 - (intOf i).toNat)
  case atStart => exact ⟨0, 0, rfl, rfl, Nat.zero_le _, Nat.le_refl _, ⟨by show wval [] < 2 ^ 0; decide, .inl rfl⟩, al _⟩
  case round =>
    obtain ⟨i, L, rfl, rfl, hi, hL, hlen, hb⟩ := hrel
    by_cases h8 : i = 8
    · subst h8
      have hlen' : IsLen L n := by
        have e : ws.take 8 = ws := List.take_of_length_le (by omega)
        rw [e, hv] at hlen
        exact hlen
      clear hix
      go_wp2
      go_ret
      exact ⟨_, rfl, ⟨L, rfl, by omega, hlen'⟩, hb⟩
    · have i8 : i < 8 := by omega
      obtain ⟨y, hyd, hix⟩ := hix i i8
      have i0 : (0 : Int) ≤ (i : Int) := Int.natCast_nonneg i
      have i7 : (i : Int) < 8 := by omega
      have hy := hg (ws.getD i 0) (by
        have : i < ws.length := by omega
        simp only [List.getD, List.getElem?_eq_getElem this]
        exact List.getElem_mem this)
      have hr := wval_range _ (goodT hg i)
      rw [List.length_take, Nat.min_eq_left (by omega)] at hr
      have ht := wval_take (ws := ws) (i := i) (by omega)
      rw [← hyd] at hy ht
      clear hyd
      by_cases hz : y = 0
      · subst hz
        have hfin : DgRel w ws (.int .i64 L) (.int .i64 ((i : Int) + 1)) wr := ⟨i + 1, L, rfl, rfl, by omega, by omega, by rw [ht, Int.zero_mul, Int.add_zero]; exact hlen, hb⟩
        clear hlen hb hg hv hr ht hy hL
        go_wp2
        go_roundw
        case rel => exact hfin
        case measure => simp [intOf]; omega
      · have hy0 : 0 < y := by omega
        obtain ⟨q1, q2⟩ := isLen_bitLen hy0 hy.2
        have hfin : DgRel w ws (.int .i64 (64 * (i : Int) + (Lib.bitLen y.toNat : Int))) (.int .i64 ((i : Int) + 1)) wr := by
          refine ⟨i + 1, 64 * i + Lib.bitLen y.toNat, by simp, rfl, by omega, by omega, ?_, hb⟩
          rw [ht]
          exact isLen_word hr.2 hr.1 hy0 q1
        have hl64 := fun U => len64_c y U hy.1 hy.2
        generalize Lib.bitLen y.toNat = l at *
        have l0 : (0 : Int) ≤ (l : Int) := Int.natCast_nonneg l
        have l6 : (l : Int) ≤ 64 := by omega
        clear hlen hb hg hv hr ht hz hy q1 hL
        go_wp2_with fail
        refine (hl64 _).mono ?_
        rintro e w2 ⟨rfl, rfl⟩
        go_wp2
        go_roundw
        case rel => exact hfin
        case measure => simp [intOf]; omega
end Go.Proofs.YtfeapgpjchjphaaGreat
namespace Go.Proofs.YtfeapgpjchjphaaGreat
open Go Go.Rx Go.RowKit
def opOf2 (o : Int) (fn g : FuncId) : Prop := (o = 43 ∧ fn = 90 ∧ g = 75) ∨ (o = 45 ∧ fn = 91 ∧ g = 62)
theorem combine_run2 (σ : Nat → Int) (o : Int) (fn g : FuncId) (ho : opOf2 o fn g) (b c d f : Bool) (e : Int) (he : e = 0 ∨ e = 6) : runs σ [⟨94, [inN 0], .s (sgN 2 b)⟩, ⟨94, [inN 1], .s (sgN 3 c)⟩, ⟨fn, [sgN 2 b, sgN 3 c], .tup [sgN 4 d, b1 f]⟩, ⟨93, [sgN 4 d, b1 f], .tup [inN 5, i1 e]⟩] [] ⟨78, [inN 0, o1 o, inN 1], .tup [inN 5, i1 e]⟩ 100 = true := by
  rcases ho with ⟨rfl, rfl, rfl⟩ | ⟨rfl, rfl, rfl⟩ <;> rcases he with rfl | rfl <;> cases b <;> cases c <;> cases d <;> cases f <;> kernel_rfl
theorem front_run2 (σ : Nat → Int) (o : Int) (fn g : FuncId) (ho : opOf2 o fn g) (e : Int) (he : e = 0 ∨ e = 6) : runs σ [⟨78, [inN 0, o1 o, inN 1], .tup [inN 2, i1 e]⟩] [] ⟨g, [inN 0, inN 1], .tup [inN 2, i1 e]⟩ 100 = true := by
  rcases ho with ⟨rfl, rfl, rfl⟩ | ⟨rfl, rfl, rfl⟩ <;> rcases he with rfl | rfl <;> kernel_rfl
/-- The operations with two integers. -/
theorem f_op2 (o : Int) (fn g : FuncId) (ho : opOf2 o fn g) (x y : Int) (hx : fit x) (hy : fit y) (s : Sgd) (hs : s.n < 13407807929942597099574024998205846127479365820592393377723561443721764030073546976801874298166903427690031858186486050853753882811946569946433649006084096) (h : Gives Tryz.prog fn [sgV x.natAbs (decide (x < 0)), sgV y.natAbs (decide (y < 0))] s.V) :
    Gives Tryz.prog g [W x, W y] (resV (sg s.n s.b) (s.f = true ∧ fit (sg s.n s.b))) := by
  obtain ⟨r, e, he, hr⟩ := resV_eq (sg s.n s.b) (s.f = true ∧ fit (sg s.n s.b))
  have k1 : RowGives Tryz.prog (sigN (lst [un x, un y, x.natAbs, y.natAbs, s.n, un r])) ⟨94, [inN 0], .s (sgN 2 (decide (x < 0)))⟩ := by
    refine ⟨rfl, ?_⟩
    simp only [List.map_cons, List.map_nil, val_inN, valV_s, val_sgN]
    exact f_signedOf x hx
  have k2 : RowGives Tryz.prog (sigN (lst [un x, un y, x.natAbs, y.natAbs, s.n, un r])) ⟨94, [inN 1], .s (sgN 3 (decide (y < 0)))⟩ := by
    refine ⟨rfl, ?_⟩
    simp only [List.map_cons, List.map_nil, val_inN, valV_s, val_sgN]
    exact f_signedOf y hy
  have k3 : RowGives Tryz.prog (sigN (lst [un x, un y, x.natAbs, y.natAbs, s.n, un r])) ⟨fn, [sgN 2 (decide (x < 0)), sgN 3 (decide (y < 0))], .tup [sgN 4 s.b, b1 s.f]⟩ := by
    refine ⟨rfl, ?_⟩
    simp only [List.map_cons, List.map_nil, valV_tup2, val_sgN, val_b1]
    exact h
  have k4 : RowGives Tryz.prog (sigN (lst [un x, un y, x.natAbs, y.natAbs, s.n, un r])) ⟨93, [sgN 4 s.b, b1 s.f], .tup [inN 5, i1 e]⟩ := by
    refine ⟨rfl, ?_⟩
    simp only [List.map_cons, List.map_nil, valV_tup2, val_sgN, val_b1, val_inN, val_i1]
    have := f_wideOf s.n s.b s.f hs
    unfold resV at hr
    rw [hr] at this
    exact this
  have c := run_gives _ _ [] (more_row k1 (more_row k2 (more_row k3 (one_row k4)))) no_test ⟨78, [inN 0, o1 o, inN 1], _⟩ 100 (fun σ => combine_run2 σ o fn g ho _ _ _ _ e he)
  simp only [List.map_cons, List.map_nil, valV_tup2, val_inN, val_i1] at c
  have k5 : RowGives Tryz.prog (sigN (lst [un x, un y, un r])) ⟨78, [inN 0, o1 o, inN 1], .tup [inN 2, i1 e]⟩ := by
    refine ⟨rfl, ?_⟩
    simp only [List.map_cons, List.map_nil, valV_tup2, val_inN, val_i1]
    exact c
  have d := run_gives _ _ [] (one_row k5) no_test ⟨g, [inN 0, inN 1], _⟩ 100 (fun σ => front_run2 σ o fn g ho e he)
  simp only [List.map_cons, List.map_nil, valV_tup2, val_inN, val_i1] at d
  rw [hr]
  exact d
/-- Add. -/
theorem f_Add2 (x y : Int) (hx : fit x) (hy : fit y) : Gives Tryz.prog 75 [W x, W y] (resV (x + y) (fit (x + y))) := by
  obtain ⟨h1, h2, h3⟩ := plusR_ok (b := decide (x < 0)) (c := decide (y < 0)) (abs_lt hx) (abs_lt hy)
  have := f_op2 43 90 75 (.inl ⟨rfl, rfl, rfl⟩) x y hx hy _ h1 (f_plus _ _ _ _ (abs_lt hx) (abs_lt hy))
  rw [sg_abs, sg_abs] at h2 h3
  rwa [resV_sum h2 h3] at this
/-- Sub. -/
theorem f_Sub2 (x y : Int) (hx : fit x) (hy : fit y) : Gives Tryz.prog 62 [W x, W y] (resV (x - y) (fit (x - y))) := by
  obtain ⟨h1, h2, h3⟩ := plusR_ok (b := decide (x < 0)) (c := !decide (y < 0)) (abs_lt hx) (abs_lt hy)
  have := f_op2 45 91 62 (.inr ⟨rfl, rfl, rfl⟩) x y hx hy _ h1 (f_minus _ _ _ _ (abs_lt hx) (abs_lt hy))
  have e : sg y.natAbs (!decide (y < 0)) = -y := by
    have := sg_abs y
    unfold sg at *
    cases hd : decide (y < 0) <;> rw [hd] at this <;> simp at this ⊢ <;> omega
  rw [sg_abs, e, ← Int.sub_eq_add_neg] at h2 h3
  rwa [resV_sum h2 h3] at this
end Go.Proofs.YtfeapgpjchjphaaGreat
