/-
  Lehmer's way to the greatest common divisor: the arithmetic.
-/
import Derived.Test.YtedhjlkidcojhaaMV
set_option linter.all false
namespace Go.Proofs.Ytedhjlkidcojhaa
open Go Go.Rx Go.RowKit Go.Big
theorem leh_fin {m n a0 b0 S A B us vs ul vl xs a d : Int} (hm : m = a0 * S + A) (hn : n = b0 * S + B) (hA : 0 ≤ A ∧ A < S) (hB : 0 ≤ B ∧ B < S) (h1 : a0 = vl * xs + vs * a) (h2 : b0 = ul * xs + us * a)
    (hd : us * vl - vs * ul = d) (hd1 : d = 1 ∨ d = -1) (p1 : 0 ≤ us) (p2 : 0 ≤ vs) (p3 : 0 ≤ ul) (c1 : vl ≤ a) (c2 : vs + vl ≤ xs - a) (c3 : us + ul ≤ vs + vl) (c4 : ul ≤ vl) (c5 : 1 ≤ vl) :
    0 < d * (vl * n - ul * m) ∧ d * (vl * n - ul * m) < d * (us * m - vs * n) ∧ m = vl * (d * (us * m - vs * n)) + vs * (d * (vl * n - ul * m)) ∧ n = ul * (d * (us * m - vs * n)) + us * (d * (vl * n - ul * m)) := by
  have hS : 0 < S := by omega
  have k1 : vl * S ≤ a * S := Int.mul_le_mul_of_nonneg_right c1 (by omega)
  have k2 : (vs + vl) * S ≤ (xs - a) * S := Int.mul_le_mul_of_nonneg_right c2 (by omega)
  have e1 : d * (vl * n - ul * m) = a * S + d * (vl * B - ul * A) := by
    rcases hd1 with rfl | rfl <;> grind
  have e2 : d * (us * m - vs * n) = xs * S + d * (us * A - vs * B) := by
    rcases hd1 with rfl | rfl <;> grind
  have e3 : d * d = 1 := by rcases hd1 with rfl | rfl <;> rfl
  refine ⟨?_, ?_, by grind, by grind⟩
  · rw [e1]
    rcases hd1 with rfl | rfl
    · have q1 : ul * A ≤ vl * A := Int.mul_le_mul_of_nonneg_right c4 hA.1
      have q2 : vl * A < vl * S := Int.mul_lt_mul_of_pos_left hA.2 (by omega)
      have q3 : 0 ≤ vl * B := Int.mul_nonneg (by omega) hB.1
      omega
    · have q2 : vl * B < vl * S := Int.mul_lt_mul_of_pos_left hB.2 (by omega)
      have q3 : 0 ≤ ul * A := Int.mul_nonneg p3 hA.1
      omega
  · rw [e1, e2]
    have e4 : xs * S - a * S = (xs - a) * S := by rw [Int.sub_mul]
    rcases hd1 with rfl | rfl
    · have q1 : (vs + vl) * B < (vs + vl) * S := Int.mul_lt_mul_of_pos_left hB.2 (by omega)
      have q2 : 0 ≤ (us + ul) * A := Int.mul_nonneg (by omega) hA.1
      rw [Int.add_mul] at q1 q2
      generalize (vs + vl) * S = z at *
      omega
    · have q1 : (us + ul) * A ≤ (vs + vl) * A := Int.mul_le_mul_of_nonneg_right c3 hA.1
      have q2 : (vs + vl) * A < (vs + vl) * S := Int.mul_lt_mul_of_pos_left hA.2 (by omega)
      have q3 : 0 ≤ (vs + vl) * B := Int.mul_nonneg (by omega) hB.1
      rw [Int.add_mul] at q1 q3
      generalize (vs + vl) * S = z at *
      omega
/-- Two lines of Euclid's algorithm, one behind the other, on the leading words a0 and b0: last and next. -/
structure LehK (a0 b0 a b ul vl un vn : Int) (neg : Bool) : Prop where
  p : 0 ≤ ul ∧ 0 ≤ vl ∧ 0 ≤ un ∧ 1 ≤ vn
  ab : 0 ≤ b ∧ b ≤ a ∧ a < 18446744073709551616
  h1 : a0 = vn * a + vl * b
  h2 : b0 = un * a + ul * b
  det : ul * vn - vl * un = if neg then 1 else -1
  le : un ≤ vn ∧ ul + un ≤ vl + vn
  one : 1 ≤ ul + un
  un1 : vl ≠ 0 → 1 ≤ un
theorem LehK.init {a0 b0 : Int} (h : 0 ≤ b0 ∧ b0 ≤ a0 ∧ a0 < 18446744073709551616) : LehK a0 b0 a0 b0 1 0 0 1 true :=
  ⟨by decide, h, by omega, by omega, by decide, by decide, by decide, fun h => absurd rfl h⟩
/-- What the sure line is worth. -/
structure SureK (a0 b0 a us vs ul vl : Int) (neg : Bool) : Prop where
  p : 0 ≤ us ∧ 0 ≤ vs ∧ 0 ≤ ul ∧ 1 ≤ vl
  x : ∃ xs, a0 = vl * xs + vs * a ∧ b0 = ul * xs + us * a ∧ vl ≤ a ∧ vs + vl ≤ xs - a
  det : us * vl - vs * ul = if neg then -1 else 1
  le : ul ≤ vl ∧ us + ul ≤ vs + vl
  ul1 : vs ≠ 0 → 1 ≤ ul
theorem LehK.step {a0 b0 a b ul vl un vn : Int} {neg : Bool} (h : LehK a0 b0 a b ul vl un vn neg) (ha0 : a0 < 18446744073709551616) (c1 : vn ≤ b) (c2 : vl + vn ≤ a - b) :
    LehK a0 b0 b (a % b) un vn (ul + a / b * un) (vl + a / b * vn) (!neg) ∧ SureK a0 b0 b ul vl un vn (!neg) ∧
      (0 ≤ a / b ∧ a / b < 18446744073709551616) ∧ (0 ≤ a / b * un ∧ a / b * un < 18446744073709551616) ∧ (0 ≤ a / b * vn ∧ a / b * vn < 18446744073709551616) ∧
      ul + a / b * un < 18446744073709551616 ∧ vl + a / b * vn < 18446744073709551616 := by
  obtain ⟨p1, p2, p3, p4⟩ := h.p
  obtain ⟨q1, q2, q3⟩ := h.ab
  obtain ⟨l1, l2⟩ := h.le
  have o1 := h.one
  have hb : 0 < b := by omega
  have m1 := Int.mul_ediv_add_emod a b
  have m2 := Int.emod_nonneg a (show b ≠ 0 by omega)
  have m3 := Int.emod_lt_of_pos a hb
  have hq : 1 ≤ a / b := by
    apply Int.le_ediv_of_mul_le hb
    omega
  have hq2 : a / b ≤ a := Int.ediv_le_self _ (by omega)
  generalize a / b = q at *
  generalize a % b = t at *
  have e1 : a0 = (vl + q * vn) * b + vn * t := by rw [h.h1, ← m1]; grind
  have e2 : b0 = (ul + q * un) * b + un * t := by rw [h.h2, ← m1]; grind
  have r1 : un ≤ q * un := by have := Int.mul_le_mul_of_nonneg_right hq p3; omega
  have r2 : vn ≤ q * vn := by have := Int.mul_le_mul_of_nonneg_right hq (show 0 ≤ vn by omega); omega
  have r3 : (q - 1) * un ≤ (q - 1) * vn := Int.mul_le_mul_of_nonneg_left l1 (by omega)
  rw [Int.sub_mul, Int.sub_mul] at r3
  have s1 : (vl + q * vn) * 1 ≤ (vl + q * vn) * b := Int.mul_le_mul_of_nonneg_left (by omega) (by omega)
  have s2 : 0 ≤ vn * t := Int.mul_nonneg (by omega) m2
  have dt := h.det
  have d2 : un * (vl + q * vn) - vn * (ul + q * un) = if (!neg) = true then 1 else -1 := by
    cases neg
    · simp at dt ⊢; grind
    · simp at dt ⊢; grind
  have d3 : ul * vn - vl * un = if (!neg) = true then -1 else 1 := by
    cases neg
    · simp at dt ⊢; omega
    · simp at dt ⊢; omega
  refine ⟨⟨by omega, by omega, e1, e2, d2, by omega, by omega, fun _ => by omega⟩, ⟨by omega, ⟨a, h.h1, h.h2, by omega, by omega⟩, d3, ⟨l1, l2⟩, h.un1⟩, by omega, by omega, by omega, by omega, by omega⟩
/-- Two remainders that stand one behind the other. -/
structure RedK (m n m' n' : Int) : Prop where
  lt : 0 ≤ n' ∧ n' < m' ∧ m' ≤ n
  dvd : ∀ d : Int, d ∣ m' ∧ d ∣ n' ↔ d ∣ m ∧ d ∣ n
theorem SureK.red {m n a0 b0 a us vs ul vl S : Int} {neg : Bool} (h : SureK a0 b0 a us vs ul vl neg) (hvs : vs ≠ 0) {A B : Int} (hm : m = a0 * S + A) (hn : n = b0 * S + B) (hA : 0 ≤ A ∧ A < S) (hB : 0 ≤ B ∧ B < S) :
    ∃ m' n', m' = (if neg then vs * n - us * m else us * m - vs * n) ∧ n' = (if neg then ul * m - vl * n else vl * n - ul * m) ∧ RedK m n m' n' := by
  obtain ⟨p1, p2, p3, p4⟩ := h.p
  obtain ⟨xs, x1, x2, x3, x4⟩ := h.x
  obtain ⟨l1, l2⟩ := h.le
  have hu := h.ul1 hvs
  obtain ⟨f1, f2, f3, f4⟩ := leh_fin hm hn hA hB x1 x2 h.det (by cases neg <;> simp) p1 p2 p3 x3 x4 l2 l1 p4
  refine ⟨_, _, rfl, rfl, ?_⟩
  have g1 : (if neg = true then vs * n - us * m else us * m - vs * n) = (if neg = true then -1 else 1) * (us * m - vs * n) := by cases neg <;> simp <;> omega
  have g2 : (if neg = true then ul * m - vl * n else vl * n - ul * m) = (if neg = true then -1 else 1) * (vl * n - ul * m) := by cases neg <;> simp <;> omega
  have g3 : ∃ x y : Int, (if neg = true then -1 else 1) * (us * m - vs * n) = x * m + y * n := ⟨(if neg = true then -1 else 1) * us, -((if neg = true then -1 else 1) * vs), by grind⟩
  have g4 : ∃ x y : Int, (if neg = true then -1 else 1) * (vl * n - ul * m) = x * m + y * n := ⟨-((if neg = true then -1 else 1) * ul), (if neg = true then -1 else 1) * vl, by grind⟩
  rw [g1, g2]
  generalize (if neg = true then -1 else 1) * (us * m - vs * n) = M at *
  generalize (if neg = true then -1 else 1) * (vl * n - ul * m) = N at *
  obtain ⟨x, y, g3⟩ := g3
  obtain ⟨z, t, g4⟩ := g4
  have hM : ul * M ≥ 1 * M := Int.mul_le_mul_of_nonneg_right hu (by omega)
  have hN : 0 ≤ us * N := Int.mul_nonneg p1 (by omega)
  refine ⟨⟨by omega, f2, by omega⟩, fun d => ⟨fun ⟨a, b⟩ => ⟨?_, ?_⟩, fun ⟨a, b⟩ => ⟨?_, ?_⟩⟩⟩
  · rw [f3]; exact Int.dvd_add (Int.dvd_mul_of_dvd_right a) (Int.dvd_mul_of_dvd_right b)
  · rw [f4]; exact Int.dvd_add (Int.dvd_mul_of_dvd_right a) (Int.dvd_mul_of_dvd_right b)
  · rw [g3]; exact Int.dvd_add (Int.dvd_mul_of_dvd_right a) (Int.dvd_mul_of_dvd_right b)
  · rw [g4]; exact Int.dvd_add (Int.dvd_mul_of_dvd_right a) (Int.dvd_mul_of_dvd_right b)
theorem RedK.div {m n : Int} (hn : 0 < n) : RedK m n n (m % n) := by
  have m1 := Int.mul_ediv_add_emod m n
  refine ⟨⟨Int.emod_nonneg _ (by omega), Int.emod_lt_of_pos _ hn, Int.le_refl _⟩, fun d => ⟨fun ⟨a, b⟩ => ⟨?_, a⟩, fun ⟨a, b⟩ => ⟨b, ?_⟩⟩⟩
  · rw [← m1]; exact Int.dvd_add (Int.dvd_mul_of_dvd_left a) b
  · have : m % n = m - n * (m / n) := by omega
    rw [this]; exact Int.dvd_sub a (Int.dvd_mul_of_dvd_left b)
end Go.Proofs.Ytedhjlkidcojhaa
