/-
  The reference's Floor: the root of a number that is not negative, rounded down.
-/
import Derived.Test.YtedhjlkidcojhaaMSB
set_option linter.all false
namespace Go.Proofs.Ytedhjlkidcojhaa
open Go Go.Rx Go.RowKit Go.Big
attribute [local instance] noAv
theorem ProdI.next {w : World} {n m : Nat} {wr w3 : World} {os : List Int} (h : ProdI w n m wr os) (hb : Below wr.heap.size wr w3) : ProdI w n m w3 os := by
  refine ⟨?_, h.len, h.gd, h.zero, h.bel.trans (hb.mono h.bel.size)⟩
  obtain ⟨h0, h1⟩ := h.own
  refine ⟨h0, ?_⟩
  rcases h1 with h1 | ⟨g, cap, cur, e1, e2, e3, e4⟩
  · exact .inl h1
  · exact .inr ⟨g, cap, cur, e1, e2, (hb.block g (Array.getElem?_eq_some_iff.1 e3).1).trans e3, e4⟩
structure FlI (wb : World) (n p q : Nat) (z : Int) (wr : World) (os : List Int) : Prop where
  I : ProdI wb n n wr os
  low : ∀ t, t < p → os.getD t 0 = 0
  mul : ∃ e : Int, os.getD p 0 = e * 2 ^ q
  le : val os * val os ≤ z
  lt : z < (val os + pw p * 2 ^ q) * (val os + pw p * 2 ^ q)
theorem fl_room {wb wr : World} {n p q : Nat} {z : Int} {os : List Int} (h : FlI wb n p (q + 1) z wr os) (hq : q ≤ 31) : 0 ≤ os.getD p 0 ∧ os.getD p 0 + 2 ^ q < 4294967296 ∧ (0 : Int) < 2 ^ q ∧ (2 : Int) ^ q ≤ 2147483648 := by
  obtain ⟨e, he⟩ := h.mul
  obtain ⟨h0, h1⟩ := good_getD h.I.gd p
  have hb : (0 : Int) < 2 ^ q := Int.pow_pos (by decide)
  have hB : (2 : Int) ^ (q + 1) = 2 * 2 ^ q := by rw [Int.pow_succ, Int.mul_comm]
  have hC : (2 : Int) ^ (31 - q) * 2 ^ (q + 1) = 4294967296 := by
    rw [← Int.pow_add, show 31 - q + (q + 1) = 32 by omega]; rfl
  have hle : (2 : Int) ^ q ≤ 2147483648 := by
    have h2 : (2 : Int) ^ (31 - q) * 2 ^ q = 2147483648 := by
      rw [← Int.pow_add, show 31 - q + q = 31 by omega]; rfl
    have h3 : (0 : Int) < 2 ^ (31 - q) := Int.pow_pos (by decide)
    have h4 := Int.mul_le_mul_of_nonneg_right (show (1 : Int) ≤ 2 ^ (31 - q) by omega) (Int.le_of_lt hb)
    omega
  refine ⟨h0, ?_, hb, hle⟩
  have h5 : e < 2 ^ (31 - q) := by
    apply Int.lt_of_mul_lt_mul_right (a := 2 ^ (q + 1)) _ (by omega)
    omega
  have h6 := Int.mul_le_mul_of_nonneg_right (show e + 1 ≤ 2 ^ (31 - q) by omega) (show (0 : Int) ≤ 2 ^ (q + 1) by omega)
  rw [hC, Int.add_mul, ← he, hB] at h6
  omega
theorem fl_take {wb wr wr' : World} {n p q : Nat} {z : Int} {os : List Int} (h : FlI wb n p (q + 1) z wr os) (hp : p < n) (I' : ProdI wb n n wr' (os.set p (os.getD p 0 + 2 ^ q))) (hle : val (os.set p (os.getD p 0 + 2 ^ q)) * val (os.set p (os.getD p 0 + 2 ^ q)) ≤ z) :
    FlI wb n p q z wr' (os.set p (os.getD p 0 + 2 ^ q)) := by
  have hlen := h.I.len
  have hv := val_set (d := os.getD p 0 + 2 ^ q) (show p < os.length by omega)
  have hlt := h.lt
  refine ⟨I', fun t ht => by rw [getD_set_other (by omega)]; exact h.low t ht, ?_, hle, ?_⟩
  · obtain ⟨e, he⟩ := h.mul
    refine ⟨2 * e + 1, ?_⟩
    have : (os.set p (os.getD p 0 + 2 ^ q)).getD p 0 = os.getD p 0 + 2 ^ q := by simp [List.getD, show p < os.length by omega]
    rw [this, he, Int.pow_succ]
    grind
  · rw [hv]
    rw [Int.pow_succ] at hlt
    have : val os + pw p * (os.getD p 0 + 2 ^ q - os.getD p 0) + pw p * 2 ^ q = val os + pw p * (2 ^ q * 2) := by grind
    rw [this]; exact hlt
theorem fl_keep {wb wr wr' : World} {n p q : Nat} {z : Int} {os : List Int} (h : FlI wb n p (q + 1) z wr os) (hp : p < n) (I' : ProdI wb n n wr' ((os.set p (os.getD p 0 + 2 ^ q)).set p (os.getD p 0)))
    (hlt : z < val (os.set p (os.getD p 0 + 2 ^ q)) * val (os.set p (os.getD p 0 + 2 ^ q))) : FlI wb n p q z wr' ((os.set p (os.getD p 0 + 2 ^ q)).set p (os.getD p 0)) := by
  have hlen := h.I.len
  have hv := val_set (d := os.getD p 0 + 2 ^ q) (show p < os.length by omega)
  have e1 : (os.set p (os.getD p 0 + 2 ^ q)).set p (os.getD p 0) = os := by
    rw [List.set_set]
    apply List.ext_getElem (by simp)
    intro i h1 h2
    by_cases hi : p = i
    · subst hi; simp [List.getD, show p < os.length by omega]
    · simp [hi]
  rw [e1] at I' ⊢
  refine ⟨I', h.low, ?_, h.le, ?_⟩
  · obtain ⟨e, he⟩ := h.mul
    exact ⟨2 * e, by rw [he, Int.pow_succ]; grind⟩
  · rw [hv] at hlt
    have : val os + pw p * (os.getD p 0 + 2 ^ q - os.getD p 0) = val os + pw p * 2 ^ q := by grind
    rw [this] at hlt; exact hlt
end Go.Proofs.Ytedhjlkidcojhaa
