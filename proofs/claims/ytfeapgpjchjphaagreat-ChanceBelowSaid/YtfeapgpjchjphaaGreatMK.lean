/-
  Digits to the base 2^32, the lowest one first: plain mathematics.
  Slices of integers that are read.
  Contracts of the reference's functions on digits: cut, made, order.
  Contracts of the reference's functions on digits: made, order.
  Contracts of the reference's functions on digits: order.
  Contracts of the reference's functions on digits: less.
  Contracts of the reference's functions on digits: more.
  Contracts of the reference's functions on digits: product.
  Contracts of the reference's functions on digits: halves.
  Contracts of the reference's integers of any length: Plus, Turn, Minus.
  Contracts of the reference's integers of any length: Plus.
  Contracts of the reference's integers of any length: Plus, whole.
  Contracts of the reference's integers of any length: Turn, Long1, Times, Minus, Order.
  Contracts of the reference's integers of any length: Long1.
-/
import Derived.WalkKit
import Derived.Below
import Derived.IntWalk
import Derived.Deep.QuietTactic
import Derived.Laws.AppendOwn
import Derived.Test.YtfeapgpjchjphaaGreatRows
import Derived.Outline
import Derived.BigQuiet
import Derived.OwnWalk
import Derived.Laws.OwnMore
import Derived.Laws.MakeOwn
import Derived.Deep.RegionWith
import Derived.Lib.Hide
import Derived.Deep.RegionLaw
import Derived.Deep.AppendLies
import Derived.Deep.RegionHeld3
import Derived.Deep.DeepCutAuto
set_option linter.all false
namespace Go.Big

def val : List Int → Int
  | [] => 0
  | x :: xs => x + 4294967296 * val xs
def pw : Nat → Int
  | 0 => 1
  | k + 1 => 4294967296 * pw k
def good (xs : List Int) : Prop := ∀ x ∈ xs, 0 ≤ x ∧ x < 4294967296
def norm (xs : List Int) : Prop := 0 < xs.length → xs.getD (xs.length - 1) 0 ≠ 0

theorem pw_succ (k : Nat) : pw (k + 1) = 4294967296 * pw k := rfl
theorem pw_pos : ∀ k, 0 < pw k
  | 0 => by decide
  | k + 1 => by have := pw_pos k; rw [pw_succ]; omega
theorem pw_add (a b : Nat) : pw (a + b) = pw a * pw b := by
  induction a with
  | zero => simp [pw]
  | succ a ih => rw [Nat.succ_add, pw_succ, pw_succ, ih]; grind
theorem pw_mono {a b : Nat} (h : a ≤ b) : pw a ≤ pw b := by
  induction b with
  | zero => obtain rfl : a = 0 := by omega
            exact Int.le_refl _
  | succ b ih =>
    by_cases e : a = b + 1
    · subst e; exact Int.le_refl _
    · have := ih (by omega); have := pw_pos b; rw [pw_succ]; omega
theorem val_nil : val [] = 0 := rfl
theorem val_cons (x : Int) (xs : List Int) : val (x :: xs) = x + 4294967296 * val xs := rfl
theorem val_append (xs ys : List Int) : val (xs ++ ys) = val xs + pw xs.length * val ys := by
  induction xs with
  | nil => simp [val, pw]
  | cons x xs ih => simp only [List.cons_append, val_cons, ih, List.length_cons, pw_succ]; grind
theorem val_snoc (xs : List Int) (x : Int) : val (xs ++ [x]) = val xs + pw xs.length * x := by
  rw [val_append]; simp [val]
theorem good_nil : good [] := fun x h => by cases h
theorem good_cons {x : Int} {xs : List Int} : good (x :: xs) ↔ (0 ≤ x ∧ x < 4294967296) ∧ good xs := by
  simp [good]
theorem good_snoc {xs : List Int} {x : Int} (h : good xs) (h0 : 0 ≤ x) (h1 : x < 4294967296) : good (xs ++ [x]) := by
  intro y hy
  rcases List.mem_append.1 hy with hy | hy
  · exact h y hy
  · simp at hy; subst hy; exact ⟨h0, h1⟩
theorem good_take {xs : List Int} (h : good xs) (k : Nat) : good (xs.take k) := fun x hx => h x (List.mem_of_mem_take hx)
theorem good_getD {xs : List Int} (h : good xs) (k : Nat) : 0 ≤ xs.getD k 0 ∧ xs.getD k 0 < 4294967296 := by
  simp only [List.getD]
  cases e : xs[k]? with
  | none => simp
  | some x => exact h x (List.mem_of_getElem? e)
theorem val_bounds : ∀ {xs : List Int}, good xs → 0 ≤ val xs ∧ val xs < pw xs.length
  | [], _ => by simp [val, pw]
  | x :: xs, h => by
    obtain ⟨h1, h2⟩ := good_cons.1 h
    have := val_bounds h2
    rw [val_cons, List.length_cons, pw_succ]; omega
theorem take_succ {xs : List Int} {k : Nat} (h : k < xs.length) : xs.take (k + 1) = xs.take k ++ [xs.getD k 0] := by
  rw [List.take_add_one]; simp [List.getD, h]
theorem val_take_succ {xs : List Int} {k : Nat} (h : k < xs.length) : val (xs.take (k + 1)) = val (xs.take k) + pw k * xs.getD k 0 := by
  rw [take_succ h, val_snoc, List.length_take, Nat.min_eq_left (by omega)]
theorem val_take_ge {xs : List Int} {k : Nat} (h : xs.length ≤ k) : val (xs.take (k + 1)) = val (xs.take k) := by
  rw [List.take_of_length_le (by omega), List.take_of_length_le h]
theorem getD_ge {xs : List Int} {k : Nat} (h : xs.length ≤ k) : xs.getD k 0 = 0 := by
  simp [List.getD, List.getElem?_eq_none h]
theorem getD_take {xs : List Int} {k j : Nat} (h : j < k) : (xs.take k).getD j 0 = xs.getD j 0 := by
  simp [List.getD, List.getElem?_take_of_lt h]
/-- Zeros at the end do not count. -/
theorem val_cut : ∀ {xs : List Int} {k : Nat}, (∀ j, k ≤ j → xs.getD j 0 = 0) → val (xs.take k) = val xs
  | [], k, _ => by simp
  | x :: xs, 0, h => by
    have h0 := h 0 (Nat.le_refl _)
    have ih := val_cut (xs := xs) (k := 0) (fun j _ => by have := h (j + 1) (by omega); simpa using this)
    simp [List.getD] at h0
    subst h0
    simp only [List.take_zero] at ih ⊢
    rw [val_cons, ← ih, val_nil]; rfl
  | x :: xs, k + 1, h => by
    rw [List.take_succ_cons, val_cons, val_cons, val_cut (xs := xs) (k := k) (fun j hj => by have := h (j + 1) (by omega); simpa using this)]
theorem norm_low {xs : List Int} (h : good xs) (hn : norm xs) (hp : 0 < xs.length) : pw (xs.length - 1) ≤ val xs := by
  obtain ⟨k, hk⟩ : ∃ k, xs.length = k + 1 := ⟨xs.length - 1, by omega⟩
  have h1 := val_take_succ (xs := xs) (k := k) (by omega)
  rw [List.take_of_length_le (by omega)] at h1
  have h2 := hn hp
  have h3 := good_getD h k
  have h4 := val_bounds (good_take h k)
  have h5 := pw_pos k
  rw [hk] at h2 ⊢
  simp only [Nat.add_sub_cancel] at h2 ⊢
  rw [h1]
  have : pw k * 1 ≤ pw k * xs.getD k 0 := Int.mul_le_mul_of_nonneg_left (by omega) (by omega)
  omega
theorem norm_len {xs ys : List Int} (hx : good xs) (hy : good ys) (hn : norm ys) (h : xs.length < ys.length) : val xs < val ys := by
  have h1 := val_bounds hx
  have h2 := norm_low hy hn (by omega)
  have h3 := pw_mono (show xs.length ≤ ys.length - 1 by omega)
  omega
/-- The first digit from above that differs decides. -/
theorem val_first {xs ys : List Int} (hx : good xs) (hy : good ys) (hl : xs.length = ys.length) {i : Nat} (hi : i < xs.length) (he : ∀ j, i < j → xs.getD j 0 = ys.getD j 0) (h : xs.getD i 0 < ys.getD i 0) : val xs < val ys := by
  have key : ∀ d, i + 1 + d ≤ xs.length → val (xs.take (i + 1 + d)) < val (ys.take (i + 1 + d)) := by
    intro d
    induction d with
    | zero =>
      intro _
      rw [Nat.add_zero, val_take_succ hi, val_take_succ (by omega)]
      have h1 := val_bounds (good_take hx i)
      have h2 := val_bounds (good_take hy i)
      rw [List.length_take, Nat.min_eq_left (by omega)] at h1
      have h5 : pw i * (xs.getD i 0 + 1) ≤ pw i * ys.getD i 0 := Int.mul_le_mul_of_nonneg_left (by omega) (Int.le_of_lt (pw_pos i))
      rw [Int.mul_add, Int.mul_one] at h5
      omega
    | succ d ih =>
      intro hd
      have := ih (by omega)
      rw [← Nat.add_assoc, val_take_succ (by omega), val_take_succ (by omega), he (i + 1 + d) (by omega)]
      omega
  have := key (xs.length - (i + 1)) (by omega)
  rw [show i + 1 + (xs.length - (i + 1)) = xs.length by omega, List.take_of_length_le (Nat.le_refl _), List.take_of_length_le (by omega)] at this
  exact this
theorem val_same {xs ys : List Int} (hl : xs.length = ys.length) (he : ∀ j, xs.getD j 0 = ys.getD j 0) : xs = ys := by
  apply List.ext_getElem hl
  intro i h1 h2
  have := he i
  simpa [List.getD, h1, h2] using this
theorem norm_eq {xs ys : List Int} (hx : good xs) (hy : good ys) (nx : norm xs) (ny : norm ys) (h : val xs = val ys) : xs = ys := by
  have hl : xs.length = ys.length := by
    rcases Nat.lt_trichotomy xs.length ys.length with h' | h' | h'
    · have := norm_len hx hy ny h'; omega
    · exact h'
    · have := norm_len hy hx nx h'; omega
  -- by the highest digit that differs
  have key : ∀ d i, i + d = xs.length → ∀ j, i ≤ j → xs.getD j 0 = ys.getD j 0 := by
    intro d
    induction d with
    | zero => intro i hi j hj; rw [getD_ge (by omega), getD_ge (by omega)]
    | succ d ih =>
      intro i hi j hj
      have hup := ih (i + 1) (by omega)
      by_cases hji : j = i
      · subst hji
        rcases Int.lt_trichotomy (xs.getD j 0) (ys.getD j 0) with h' | h' | h'
        · have := val_first hx hy hl (by omega) (fun q hq => hup q (by omega)) h'; omega
        · exact h'
        · have := val_first hy hx hl.symm (by omega) (fun q hq => (hup q (by omega)).symm) h'; omega
      · exact hup j (by omega)
  exact val_same hl fun j => key xs.length 0 (by omega) j (Nat.zero_le _)
end Go.Big
namespace Go.Big
theorem length_set (xs : List Int) (j : Nat) (d : Int) : (xs.set j d).length = xs.length := by simp
theorem val_set : ∀ {xs : List Int} {j : Nat} {d : Int}, j < xs.length → val (xs.set j d) = val xs + pw j * (d - xs.getD j 0)
  | [], j, d, h => absurd h (Nat.not_lt_zero _)
  | x :: xs, 0, d, h => by simp [val_cons, pw, List.getD]; omega
  | x :: xs, j + 1, d, h => by
    have ih := val_set (xs := xs) (j := j) (d := d) (by simpa using h)
    have e : (x :: xs).getD (j + 1) 0 = xs.getD j 0 := by simp [List.getD]
    rw [List.set_cons_succ, val_cons, val_cons, ih, pw_succ, e]; grind
theorem good_set {xs : List Int} {j : Nat} {d : Int} (h : good xs) (h0 : 0 ≤ d) (h1 : d < 4294967296) : good (xs.set j d) := by
  intro x hx
  rcases List.mem_or_eq_of_mem_set hx with hx | hx
  · exact h x hx
  · subst hx; exact ⟨h0, h1⟩
theorem getD_set_other {xs : List Int} {j t : Nat} {d : Int} (h : j ≠ t) : (xs.set j d).getD t 0 = xs.getD t 0 := by
  simp [List.getD, List.getElem?_set_ne h]
theorem getD_zeros (n t : Nat) : (List.replicate n (0 : Int)).getD t 0 = 0 := by
  simp [List.getD, List.getElem?_replicate]; split <;> rfl
theorem val_zeros : ∀ n, val (List.replicate n (0 : Int)) = 0
  | 0 => rfl
  | n + 1 => by rw [List.replicate_succ, val_cons, val_zeros n]; rfl
theorem good_zeros (n : Nat) : good (List.replicate n (0 : Int)) := fun x hx => by
  have := List.eq_of_mem_replicate hx; subst this; omega
theorem mul_bound {x y : Int} (x0 : 0 ≤ x) (x1 : x < 4294967296) (y0 : 0 ≤ y) (y1 : y < 4294967296) : 0 ≤ x * y ∧ x * y ≤ 18446744065119617025 := by
  refine ⟨Int.mul_nonneg x0 y0, ?_⟩
  have h1 : x * y ≤ 4294967295 * y := Int.mul_le_mul_of_nonneg_right (by omega) y0
  omega
end Go.Big
namespace Go.Big
open Go Go.RowKit

theorem below_drewN {B n : Nat} {a w : World} (h : Below B a w) : Below B a (w.drewN n) := ⟨h.os, h.tape, h.output, h.size, h.block⟩
/-- Blocks that a row shall not lie in. -/
class Av where
  A : Nat → Prop
@[reducible] def noAv : Av := ⟨fun _ => False⟩
/-- v is a slice with these elements, in no block that is to be avoided. -/
def RowK [Av] (k : IntKind) (w : World) (v : Value) (xs : List Int) : Prop :=
  (v = .slice none 0 0 ∧ xs = [] ∧ ∀ g, Av.A g → g < w.heap.size) ∨
  ∃ b o cap, v = .slice (some ⟨b, o, none⟩) xs.length cap ∧ xs.length ≤ cap ∧ b < w.heap.size ∧ (∀ j, j < xs.length → w.cell? ⟨b, o + j, none⟩ = some (.int k (xs.getD j 0))) ∧ ¬ Av.A b ∧ ∀ g, Av.A g → g < w.heap.size
section
variable [Av]
variable {k : IntKind} {w w' : World} {v : Value} {xs : List Int}
theorem RowK.av (h : RowK k w v xs) : ∀ g, Av.A g → g < w.heap.size := by
  rcases h with ⟨_, _, h⟩ | ⟨b, o, cap, h1, h2, h3, h4, h5, h6⟩
  · exact h
  · exact h6
theorem RowK.below (h : RowK k w v xs) (hb : Below w.heap.size w w') : RowK k w' v xs := by
  have hs := hb.size
  rcases h with ⟨e1, e2, h⟩ | ⟨b, o, cap, h1, h2, h3, h4, h5, h6⟩
  · exact .inl ⟨e1, e2, fun g hg => Nat.lt_of_lt_of_le (h g hg) hs⟩
  · exact .inr ⟨b, o, cap, h1, h2, Nat.lt_of_lt_of_le h3 hs, fun j hj => (hb.cell (p := ⟨b, o + j, none⟩) h3).trans (h4 j hj), h5, fun g hg => Nat.lt_of_lt_of_le (h6 g hg) hs⟩
theorem RowK.nil (hA : ∀ g, Av.A g → g < w.heap.size) : RowK k w (.slice none 0 0) [] := .inl ⟨rfl, rfl, hA⟩
theorem RowK.of_owns {base n : Nat} {e : TypeId} (hA : ∀ g, Av.A g → g < base) (hsz : base ≤ w.heap.size) (h : w.ownsRow base e 1 v n (xs.map (Value.int k))) : RowK k w v xs := by
  obtain ⟨h0, h1⟩ := h
  have hn : xs.length = n := by simpa using h0
  subst hn
  have hA' : ∀ g, Av.A g → g < w.heap.size := fun g hg => Nat.lt_of_lt_of_le (hA g hg) hsz
  rcases h1 with ⟨rfl, h2⟩ | ⟨g, cap, cur, rfl, hbg, hg, hle, _, hs, ht⟩
  · exact .inl ⟨rfl, List.eq_nil_of_length_eq_zero h2, hA'⟩
  · refine .inr ⟨g, 0, cap, rfl, hle, (Array.getElem?_eq_some_iff.1 hg).1, fun j hj => ?_, fun ha => absurd (hA g ha) (by omega), hA'⟩
    have e1 : (cur.toList.take (xs.length * 1))[j]? = (xs.map (Value.int k))[j]? := by rw [ht]
    rw [List.getElem?_take_of_lt (by omega)] at e1
    simp only [World.cell?, hg]
    simp only [Nat.zero_add, List.getElem?_map] at e1 ⊢
    simp only [Array.getElem?_toList] at e1
    simp [e1, List.getD, hj]
theorem RowK.alloc (h : RowK k w v xs) (o : Obj) : RowK k (w.alloc o) v xs := h.below ((Below.refl _ _).alloc (Nat.le_refl _) o)
theorem RowK.drew (h : RowK k w v xs) : RowK k w.drew v xs := h
theorem RowK.upto {a : Option Addr} {c n q : Nat} (h : RowK k w (.slice a n c) xs) (ha : a ≠ none) (hq : q ≤ xs.length) : RowK k w (.slice a q c) (xs.take q) := by
  have hl : (xs.take q).length = q := by rw [List.length_take]; omega
  rcases h with ⟨h, _, _⟩ | ⟨b, o, cap, h1, h2, h3, h4, h5⟩
  · injection h with h; exact absurd h ha
  · injection h1 with e1 e2 e3
    subst e1; subst e3
    exact .inr ⟨b, o, _, by rw [hl], by omega, h3, fun j hj => by rw [h4 j (by omega), getD_take (by omega)], h5⟩
theorem RowK.cell {a : Option Addr} {c n j : Nat} (h : RowK k w (.slice a n c) xs) (hj : j < xs.length) : ∃ b o, a = some ⟨b, o, none⟩ ∧ b < w.heap.size ∧ w.cell? ⟨b, o + j, none⟩ = some (.int k (xs.getD j 0)) := by
  rcases h with ⟨_, rfl, _⟩ | ⟨b, o, cap, h1, h2, h3, h4, _⟩
  · exact absurd hj (Nat.not_lt_zero _)
  · injection h1 with e1 e2 e3
    exact ⟨b, o, e1, h3, h4 j hj⟩
theorem RowK.setCell (h : RowK k w v xs) {p : Addr} {y : Value} (hy : w.cell? p = some y) (hk : ∀ n, y ≠ .int k n) (z : Value) : RowK k (w.setCell p z) v xs := by
  rcases h with ⟨e1, e2, h⟩ | ⟨b, o, cap, h1, h2, h3, h4, h5, h6⟩
  · exact .inl ⟨e1, e2, by simpa using h⟩
  · refine .inr ⟨b, o, cap, h1, h2, by simpa using h3, fun j hj => ?_, h5, by simpa using h6⟩
    have hne : p ≠ ⟨b, o + j, none⟩ := fun e => by
      subst e
      rw [h4 j hj] at hy
      exact hk _ (Option.some.inj hy).symm
    rw [World.cell?_setCell_other _ _ _ _ hne]
    exact h4 j hj
/-- Changes of avoided blocks do not touch a row. -/
theorem RowK.kept (h : RowK k w v xs) (hs : w.heap.size ≤ w'.heap.size) (hc : ∀ b, ¬ Av.A b → b < w.heap.size → w'.heap[b]? = w.heap[b]?) : RowK k w' v xs := by
  rcases h with ⟨e1, e2, h⟩ | ⟨b, o, cap, h1, h2, h3, h4, h5, h6⟩
  · exact .inl ⟨e1, e2, fun g hg => Nat.lt_of_lt_of_le (h g hg) hs⟩
  · refine .inr ⟨b, o, cap, h1, h2, Nat.lt_of_lt_of_le h3 hs, fun j hj => ?_, h5, fun g hg => Nat.lt_of_lt_of_le (h6 g hg) hs⟩
    have e := hc b h5 h3
    have := h4 j hj
    simp only [World.cell?, e] at this ⊢
    exact this
theorem RowK.len (h : RowK k w v xs) : ∃ a c, v = .slice a xs.length c ∧ xs.length ≤ c := by
  rcases h with ⟨rfl, rfl, _⟩ | ⟨b, o, cap, h1, h2, _⟩
  · exact ⟨none, 0, rfl, Nat.le_refl _⟩
  · exact ⟨_, cap, h1, h2⟩
/-- n, or -n. -/
def sgz (b : Bool) (n : Int) : Int := if b then - n else n
omit [Av] in
theorem sgz_t (n : Int) : sgz true n = - n := rfl
omit [Av] in
theorem sgz_f (n : Int) : sgz false n = n := rfl
/-- v is an integer of any length: its sign, and its digits. -/
def LongV [Av] (w : World) (v : Value) (z : Int) : Prop :=
  ∃ b s xs, v = .agg #[.bool b, s] ∧ RowK .i64 w s xs ∧ good xs ∧ norm xs ∧ (b = true → 0 < xs.length) ∧ z = sgz b (val xs)
theorem LongV.below {z : Int} (h : LongV w v z) (hb : Below w.heap.size w w') : LongV w' v z := by
  obtain ⟨b, s, xs, h1, h2, h3⟩ := h
  exact ⟨b, s, xs, h1, h2.below hb, h3⟩
theorem LongV.setCell {z : Int} (h : LongV w v z) {p : Addr} {y : Value} (hy : w.cell? p = some y) (hk : ∀ n, y ≠ .int .i64 n) (u : Value) : LongV (w.setCell p u) v z := by
  obtain ⟨b, s, xs, h1, h2, h3⟩ := h
  exact ⟨b, s, xs, h1, h2.setCell hy hk u, h3⟩
theorem LongV.box2 {z : Int} (h : LongV w v z) {b n c : Nat} {p : Bool} {a : Option Addr} (h0 : w.cell? ⟨b, 0, none⟩ = some (.bool p)) (h1 : w.cell? ⟨b, 1, none⟩ = some (.slice a n c)) (u u' : Value) :
    LongV ((w.setCell ⟨b, 0, none⟩ u).setCell ⟨b, 1, none⟩ u') v z :=
  (h.setCell h0 (fun n e => by cases e) u).setCell (y := .slice a n c) (by rw [World.cell?_setCell_other _ _ _ _ (by simp)]; exact h1) (fun n e => by cases e) u'
theorem LongV.av {z : Int} (h : LongV w v z) : ∀ g, Av.A g → g < w.heap.size := by
  obtain ⟨b, s, xs, h1, h2, h3⟩ := h
  exact h2.av
theorem LongV.kept {z : Int} (h : LongV w v z) (hs : w.heap.size ≤ w'.heap.size) (hc : ∀ b, ¬ Av.A b → b < w.heap.size → w'.heap[b]? = w.heap[b]?) : LongV w' v z := by
  obtain ⟨b, s, xs, h1, h2, h3⟩ := h
  exact ⟨b, s, xs, h1, h2.kept hs hc, h3⟩
/-- The call hands back what holds, and has only made memory. -/
def Gets (R : World → Value → Prop) (w : World) (e : Ending) (w' : World) : Prop := ∃ v, e = .returned v ∧ R w' v ∧ Below w.heap.size w w'
end
theorem RowK.move {k : IntKind} {w w' : World} {v : Value} {xs : List Int} {A A' : Nat → Prop} (h : @RowK ⟨A⟩ k w v xs) (hs : w.heap.size ≤ w'.heap.size) (hc : ∀ b, ¬ A b → b < w.heap.size → w'.heap[b]? = w.heap[b]?)
    (hA : ∀ g, A' g → g < w'.heap.size) (hb : ∀ b, b < w.heap.size → ¬ A b → ¬ A' b) : @RowK ⟨A'⟩ k w' v xs := by
  rcases @RowK.kept ⟨A⟩ _ _ _ _ _ h hs hc with ⟨e1, e2, _⟩ | ⟨b, o, cap, h1, h2, h3, h4, h5, _⟩
  · exact .inl ⟨e1, e2, hA⟩
  · rcases h with ⟨e1, e2, h⟩ | ⟨b', o', cap', h1', h2', h3', h4', h5', _⟩
    · subst e1; cases h1
    · subst h1
      injection h1' with e1 e2 e3
      injection e1 with e1
      injection e1 with e1
      subst e1
      exact .inr ⟨b, o, cap, rfl, h2, h3, h4, hb b h3' h5, hA⟩
theorem LongV.move {w w' : World} {v : Value} {z : Int} {A A' : Nat → Prop} (h : @LongV ⟨A⟩ w v z) (hs : w.heap.size ≤ w'.heap.size) (hc : ∀ b, ¬ A b → b < w.heap.size → w'.heap[b]? = w.heap[b]?)
    (hA : ∀ g, A' g → g < w'.heap.size) (hb : ∀ b, b < w.heap.size → ¬ A b → ¬ A' b) : @LongV ⟨A'⟩ w' v z := by
  obtain ⟨b, s, xs, h1, h2, h3⟩ := h
  exact ⟨b, s, xs, h1, RowK.move h2 hs hc hA hb, h3⟩
theorem LongV.no {w : World} {v : Value} {z : Int} {A : Nat → Prop} (h : @LongV ⟨A⟩ w v z) : @LongV noAv w v z :=
  LongV.move h (Nat.le_refl _) (fun _ _ _ => rfl) (fun _ h => h.elim) (fun _ _ _ h => h.elim)
theorem RowK.own0 {k : IntKind} {w : World} {v : Value} {xs : List Int} {base n : Nat} {e : TypeId} (h : w.ownsRow base e 1 v n (xs.map (Value.int k))) : @RowK noAv k w v xs := by
  have h' := h
  obtain ⟨h0, h1⟩ := h'
  rcases h1 with ⟨rfl, h2⟩ | ⟨g, cap, cur, _, hb, hg, _⟩
  · subst h2
    have e1 : xs.length = 0 := by simpa using h0
    exact .inl ⟨rfl, List.eq_nil_of_length_eq_zero e1, fun _ h => h.elim⟩
  · exact @RowK.of_owns noAv _ _ _ _ base _ _ (fun _ h => h.elim) (Nat.le_trans hb (Nat.le_of_lt (Array.getElem?_eq_some_iff.1 hg).1)) h
end Go.Big
namespace Go.Big
open Go Go.RowKit
theorem cell1 (w : World) (x : Value) (t : TypeId) : ∀ (j : Nat) (u : Value), [x][j]? = some u → (w.alloc (.cells #[x] t)).cell? ((⟨w.heap.size, 0, none⟩ : Addr).add j) = some u := by
  intro j u hj
  match j, hj with
  | 0, hj =>
    simp at hj
    subst hj
    rw [Addr.add_lit, World.cell?_alloc_at _ _ _ _ rfl]; rfl
  | j + 1, hj => simp at hj
theorem cell2 (w : World) (x y : Value) (t : TypeId) : ∀ (j : Nat) (u : Value), [x, y][j]? = some u → (w.alloc (.cells #[x, y] t)).cell? ((⟨w.heap.size, 0, none⟩ : Addr).add j) = some u := by
  intro j u hj
  match j, hj with
  | 0, hj =>
    simp at hj
    subst hj
    rw [Addr.add_lit, World.cell?_alloc_at _ _ _ _ rfl]; rfl
  | 1, hj =>
    simp at hj
    subst hj
    rw [Addr.add_lit, World.cell?_alloc_at _ _ _ _ rfl]; rfl
  | j + 2, hj => simp at hj
theorem one1 {k : IntKind} {n : Int} : ∀ u ∈ [Value.int k n], u.oneCell' = true := by
  intro u hu; simp at hu; subst hu; rfl
theorem one2 {k : IntKind} {m n : Int} : ∀ u ∈ [Value.int k m, Value.int k n], u.oneCell' = true := by
  intro u hu; simp at hu; rcases hu with rfl | rfl <;> rfl
theorem own_base {w : World} {base n size : Nat} {e : TypeId} {v : Value} {xs : List Value} (h : w.ownsRow base e size v n xs) : ∀ k, v.ownBlock = some k → base ≤ k := by
  intro k hk
  rcases h.2 with ⟨rfl, _⟩ | ⟨g, cap, cur, rfl, hb, _⟩
  · simp [Value.ownBlock] at hk
  · simp [Value.ownBlock] at hk; omega
theorem below_append {w wr w3 : World} {n size : Nat} {e : TypeId} {v : Value} {xs : List Value} {o : Obj} (hb : Below w.heap.size w wr) (h : wr.ownsRow w.heap.size e size v n xs) (hg : (wr.alloc o).grownBy w3 v.ownBlock) : Below w.heap.size w w3 :=
  (hb.alloc hb.size o).grown hg (by have := hb.size; simp; omega) (own_base h)
end Go.Big
namespace Go.Proofs.YtfeapgpjchjphaaGreat
open Go Go.RowKit Go.Big
variable [Av]
def CutPost (v0 : Value) (xs : List Int) (w : World) (e : Ending) (w' : World) : Prop :=
  ∃ v k, e = .returned v ∧ k ≤ xs.length ∧ (∀ u, RowK .i64 u v0 xs → RowK .i64 u v (xs.take k)) ∧ (∀ j, k ≤ j → xs.getD j 0 = 0) ∧ norm (xs.take k) ∧ w' = w
set_option maxHeartbeats 800000 in
set_option maxRecDepth 100000 in
theorem cut_c {w : World} {v : Value} {xs : List Int} (h : RowK .i64 w v xs) (hs : xs.length ≤ 1048576) : Calls Tryz.prog 69 #[v] w (CutPost v xs w) := by
  rcases h with ⟨rfl, rfl, hav⟩ | ⟨b, o, cap, rfl, hcap, hb, hc, hav⟩
  · go_enter Tryz.func69, Tryz.ntmps69
    go_wp2
    refine wp_loop_rounds 1 ?_
    rw [rounds_succ]
    go_wp2
    go_ret
    exact ⟨_, 0, rfl, Nat.le_refl _, fun _ h => h, fun j _ => by simp, fun h => by simp at h, rfl⟩
  · generalize hl : xs.length = len at *
    go_enter Tryz.func69, Tryz.ntmps69
    go_wp2
    go_loop [3] (fun n => ∃ k : Nat, k ≤ len ∧ n = .int .i64 k ∧ ∀ j, k ≤ j → xs.getD j 0 = 0) (fun n => (intOf n).toNat)
    case atStart => exact ⟨len, Nat.le_refl _, rfl, fun j hj => getD_ge (by omega)⟩
    case round =>
      obtain ⟨k, hk, rfl, hz⟩ := hrel
      have fin : ∀ q, q ≤ len → ∀ u, RowK .i64 u (.slice (some ⟨b, o, none⟩) len cap) xs → RowK .i64 u (.slice (some ⟨b, o, none⟩) q cap) (xs.take q) := fun q hq u hu => hu.upto (by simp) (by omega)
      rcases Nat.eq_zero_or_pos k with rfl | hp
      · go_wp2
        go_ret
        exact ⟨_, 0, rfl, Nat.zero_le _, fin 0 (Nat.zero_le _), hz, fun h => by simp at h, rfl⟩
      · obtain ⟨q, rfl⟩ : ∃ q, k = q + 1 := ⟨k - 1, by omega⟩
        have hcell := hc q (by omega)
        have hq : (0 : Int) < (q : Int) + 1 := by omega
        by_cases h0 : xs.getD q 0 = 0
        · rw [h0] at hcell
          go_wp2
          go_round
          case rel => exact ⟨q, by omega, rfl, fun j hj => by
            by_cases e : j = q
            · subst e; exact h0
            · exact hz j (by omega)⟩
          case measure => simp [intOf]
        · have hf := fin (q + 1) hk
          have hn : norm (xs.take (q + 1)) := fun _ => by
            rw [List.length_take, Nat.min_eq_left (by omega), getD_take (by omega)]; exact h0
          clear fin
          generalize hx : xs.getD q 0 = x at *
          have hx0 : (x == 0) = false := by simpa using h0
          go_wp2
          go_ret
          exact ⟨_, q + 1, rfl, by omega, hf, hz, hn, rfl⟩
end Go.Proofs.YtfeapgpjchjphaaGreat
namespace Go.Proofs.YtfeapgpjchjphaaGreat
open Go Go.RowKit Go.Big
variable [Av]
set_option maxHeartbeats 800000 in
set_option maxRecDepth 100000 in
theorem made_c {w : World} {v : Value} {xs : List Int} (b : Bool) (h : RowK .i64 w v xs) (hg : good xs) (hs : xs.length ≤ 1048576) :
    Calls Tryz.prog 57 #[.bool b, v] w (Gets (fun w' x => LongV w' x (sgz b (val xs))) w) := by
  go_enter Tryz.func57, Tryz.ntmps57
  go_wp2_with fail
  refine (cut_c (h.alloc _) hs).mono ?_
  rintro e w1 ⟨v1, k, rfl, hk, hrow, hz, hn, rfl⟩
  have hrow := hrow _ h
  obtain ⟨a1, c1, rfl, hc1⟩ := hrow.len
  have hv := val_cut hz
  have hl : (xs.take k).length = k := by rw [List.length_take]; omega
  have hbel : ∀ o : Obj, Below w.heap.size w (w.alloc o) := fun o => (Below.refl _ _).alloc (Nat.le_refl _) o
  rw [hl] at hrow hc1
  have fin : ∀ b' : Bool, (b' = true → 0 < k) → ∀ o : Obj, LongV (w.alloc o) (.agg #[.bool b', .slice a1 k c1]) (sgz b' (val xs)) := fun b' hb o =>
    ⟨b', _, _, rfl, hrow.alloc o, good_take hg k, hn, by rw [hl]; exact hb, by rw [hv]⟩
  cases b with
  | false =>
    have F := fin false (fun h => by cases h)
    clear fin
    go_wp2
    exact bodyPost_ret (v := .agg #[.bool false, .slice a1 k c1]) (by simp [results, Tryz.results57, go_sem]) rfl ⟨_, rfl, F _, hbel _⟩
  | true =>
    by_cases hk0 : 0 < k
    · have F := fin true (fun _ => hk0)
      clear fin
      go_wp2
      exact bodyPost_ret (v := .agg #[.bool true, .slice a1 k c1]) (by simp [results, Tryz.results57, go_sem]) rfl ⟨_, rfl, F _, hbel _⟩
    · obtain rfl : k = 0 := by omega
      have F := fin false (fun h => by cases h)
      have h0 : val xs = 0 := by rw [← hv]; rfl
      have F : ∀ o : Obj, LongV (w.alloc o) (.agg #[.bool false, .slice a1 0 c1]) (sgz true (val xs)) := fun o => by
        have := F o
        rw [h0] at this ⊢
        exact this
      clear fin h0 hv
      go_wp2
      exact bodyPost_ret (v := .agg #[.bool false, .slice a1 0 c1]) (by simp [results, Tryz.results57, go_sem]) rfl ⟨_, rfl, F _, hbel _⟩
end Go.Proofs.YtfeapgpjchjphaaGreat
namespace Go.Proofs.YtfeapgpjchjphaaGreat
open Go Go.RowKit Go.Big
variable [Av]
def OrdR (m n : Int) (v : Value) : Prop := ∃ r, v = .int .i64 r ∧ (r < 0 ↔ m < n) ∧ (0 < r ↔ n < m)
set_option maxHeartbeats 800000 in
set_option maxRecDepth 100000 in
theorem order_c {w : World} {v u : Value} {xs ys : List Int} (h1 : RowK .i64 w v xs) (h2 : RowK .i64 w u ys) (g1 : good xs) (g2 : good ys) (n1 : norm xs) (n2 : norm ys) (s1 : xs.length ≤ 1048576) (s2 : ys.length ≤ 1048576) :
    Calls Tryz.prog 60 #[v, u] w (Gets (fun _ x => OrdR (val xs) (val ys) x) w) := by
  by_cases hl : xs.length = ys.length
  · by_cases h0 : xs.length = 0
    · have hv : val xs = val ys := by
        have e1 := List.eq_nil_of_length_eq_zero h0
        have e2 : ys = [] := List.eq_nil_of_length_eq_zero (by omega)
        rw [e1, e2]
      obtain ⟨a, c, rfl, hc⟩ := h1.len
      obtain ⟨a', c', rfl, hc'⟩ := h2.len
      rw [← hl, h0] at *
      clear hl h0
      go_enter Tryz.func60, Tryz.ntmps60
      go_wp2
      refine wp_loop_rounds 1 ?_
      rw [rounds_succ]
      go_wp2
      go_ret
      exact ⟨_, rfl, ⟨0, rfl, by omega, by omega⟩, Below.refl _ _⟩
    · rcases h1 with ⟨_, rfl, _⟩ | ⟨b, o, cap, rfl, hcap, hb, hc, -⟩
      · exact absurd rfl h0
      · rcases h2 with ⟨_, rfl, _⟩ | ⟨b', o', cap', rfl, hcap', hb', hc', -⟩
        · exact absurd hl (by simpa using h0)
        · have hy : ys.length = xs.length := hl.symm
          rw [hy] at hcap' hc' s2 ⊢
          clear hl
          generalize hL : xs.length = L at *
          go_enter Tryz.func60, Tryz.ntmps60
          go_wp2
          go_loopw [5] (fun i wr => Below w.heap.size w wr ∧ ((i = .int .i64 (-1) ∧ ∀ j, xs.getD j 0 = ys.getD j 0) ∨ ∃ q : Nat, q < L ∧ i = .int .i64 q ∧ ∀ j, q < j → xs.getD j 0 = ys.getD j 0)) (fun i _ => (intOf i + 1).toNat)
          case atStart => exact ⟨Below.refl _ _, .inr ⟨L - 1, by omega, by first | rfl | go_num, fun j hj => by rw [getD_ge (show xs.length ≤ j by omega), getD_ge (show ys.length ≤ j by omega)]⟩⟩
          case round =>
            obtain ⟨hbel, hrel⟩ := hrel
            rcases hrel with ⟨rfl, he⟩ | ⟨q, hq, rfl, he⟩
            · have hv : val xs = val ys := by rw [val_same (by omega) he]
              go_wp2
              go_ret
              exact ⟨_, rfl, ⟨0, rfl, by omega, by omega⟩, hbel⟩
            · have c1 := (hbel.cell (p := ⟨b, o + q, none⟩) hb).trans (hc q hq)
              have c2 := (hbel.cell (p := ⟨b', o' + q, none⟩) hb').trans (hc' q hq)
              by_cases hxy : xs.getD q 0 = ys.getD q 0
              · have he' : ∀ j, q ≤ j → xs.getD j 0 = ys.getD j 0 := fun j hj => by
                  by_cases e : j = q
                  · subst e; exact hxy
                  · exact he j (by omega)
                rw [← hxy] at c2
                generalize xs.getD q 0 = x at c1 c2
                go_wp2
                go_quiet (skip)
                go_wp2
                go_roundw
                case rel =>
                  refine ⟨below_drewN hbel, ?_⟩
                  by_cases q0 : q = 0
                  · subst q0; exact .inl ⟨rfl, fun j => he' j (Nat.zero_le _)⟩
                  · exact .inr ⟨q - 1, by omega, by go_num, fun j hj => he' j (by omega)⟩
                case measure => simp [intOf]
              · have gx := good_getD g1 q
                have gy := good_getD g2 q
                have hlt : xs.getD q 0 < ys.getD q 0 → val xs < val ys := fun h => val_first g1 g2 (by omega) (by omega) he h
                have hgt : ys.getD q 0 < xs.getD q 0 → val ys < val xs := fun h => val_first g2 g1 (by omega) (by omega) (fun j hj => (he j hj).symm) h
                generalize xs.getD q 0 = x at *
                generalize ys.getD q 0 = y at *
                have hres : OrdR (val xs) (val ys) (.int .i64 (x - y)) := ⟨_, rfl, by constructor <;> intro h <;> omega, by constructor <;> intro h <;> omega⟩
                have hne : (x != y) = true := by simpa using hxy
                obtain ⟨x0, x1⟩ := gx
                obtain ⟨y0, y1⟩ := gy
                clear hlt hgt he
                go_wp2
                go_quiet (skip)
                go_wp2
                go_quiet (skip)
                go_wp2
                go_ret
                exact ⟨_, rfl, hres, below_drewN (below_drewN hbel)⟩
  · obtain ⟨a, c, rfl, hc⟩ := h1.len
    obtain ⟨a', c', rfl, hc'⟩ := h2.len
    have hlt : xs.length < ys.length → val xs < val ys := norm_len g1 g2 n2
    have hgt : ys.length < xs.length → val ys < val xs := norm_len g2 g1 n1
    have hres : OrdR (val xs) (val ys) (.int .i64 ((xs.length : Int) - ys.length)) := ⟨_, rfl, by constructor <;> intro h <;> omega, by constructor <;> intro h <;> omega⟩
    clear h1 h2 hlt hgt
    generalize xs.length = L at *
    generalize ys.length = M at *
    have hne : ((L : Int) != M) = true := by simp; omega
    go_enter Tryz.func60, Tryz.ntmps60
    go_wp2
    go_ret
    exact ⟨_, rfl, hres, Below.refl _ _⟩
end Go.Proofs.YtfeapgpjchjphaaGreat
namespace Go.Proofs.YtfeapgpjchjphaaGreat
open Go Go.RowKit Go.Big
variable [Av]
theorem Tryz.info3 : (Tryz.prog.info? 3).map (fun i => (i.zero, i.size, i.bytes)) = some (some (.int .i64 0), 1, 8) := by kernel_rfl
/-- v is a slice with the digits of n, the highest of which is not 0. -/
def DigV (n : Int) (w : World) (v : Value) : Prop := ∃ zs, RowK .i64 w v zs ∧ good zs ∧ norm zs ∧ val zs = n
theorem val_take_any (xs : List Int) (k : Nat) : val (xs.take (k + 1)) = val (xs.take k) + pw k * xs.getD k 0 := by
  by_cases h : k < xs.length
  · exact val_take_succ h
  · rw [val_take_ge (by omega), getD_ge (by omega)]; omega
structure LessI (xs ys : List Int) (L : Nat) (w : World) (out : Value) (β : Int) (k : Nat) (zs : List Int) (wr : World) : Prop where
  kL : k ≤ L
  b0 : 0 ≤ β
  b1 : β ≤ 1
  own : wr.ownsRow w.heap.size 3 1 out zs.length (zs.map (Value.int .i64))
  len : zs.length = k
  gd : good zs
  eq : val (xs.take k) - val (ys.take k) = val zs - β * pw k
  bel : Below w.heap.size w wr
theorem less_step {xs ys zs : List Int} {β β' d : Int} {k : Nat} (hl : zs.length = k) (h : val (xs.take k) - val (ys.take k) = val zs - β * pw k) (hd : d - β' * 4294967296 = xs.getD k 0 - β - ys.getD k 0) :
    val (xs.take (k + 1)) - val (ys.take (k + 1)) = val (zs ++ [d]) - β' * pw (k + 1) := by
  rw [val_take_any, val_take_any, val_snoc, pw_succ, hl]
  have : pw k * (d - β' * 4294967296) = pw k * (xs.getD k 0 - β - ys.getD k 0) := by rw [hd]
  grind
def LessRel (xs ys : List Int) (L : Nat) (w : World) (out br i : Value) (wr : World) : Prop :=
  ∃ (k : Nat) (β : Int) (zs : List Int), br = .int .i64 β ∧ i = .int .i64 k ∧ LessI xs ys L w out β k zs wr
set_option maxHeartbeats 1600000 in
set_option maxRecDepth 100000 in
theorem less_c {w : World} {v u : Value} {xs ys : List Int} (h1 : RowK .i64 w v xs) (h2 : RowK .i64 w u ys) (g1 : good xs) (g2 : good ys) (hl : ys.length ≤ xs.length) (hv : val ys ≤ val xs) (s1 : xs.length ≤ 1048576) :
    Calls Tryz.prog 61 #[v, u] w (Gets (DigV (val xs - val ys)) w) := by
  have hav := h1.av
  obtain ⟨i0, hi, hz0, hz1, hz2⟩ := info_parts Tryz.info3
  obtain ⟨a, c, rfl, hc⟩ := h1.len
  obtain ⟨a', c', rfl, hc'⟩ := h2.len
  generalize hL : xs.length = L at *
  generalize hM : ys.length = M at *
  go_enter Tryz.func61, Tryz.ntmps61
  go_wp2
  go_loopw [5, 6, 7] (LessRel xs ys L w) (fun _ _ i _ => L - (intOf i).toNat)
  case atStart => exact ⟨0, 0, [], rfl, rfl, Nat.zero_le _, by omega, by omega, World.ownsRow_nil _ _ _ _, rfl, good_nil, by simp [val], Below.refl _ _⟩
  case round =>
    obtain ⟨k, β, zs, rfl, rfl, kL, b0, b1, own, len, gd, eq, bel⟩ := hrel
    by_cases hk : k < L
    · have gx := good_getD g1 k
      have gy := good_getD g2 k
      obtain ⟨x0, x1⟩ := gx
      obtain ⟨y0, y1⟩ := gy
      obtain ⟨b, o, rfl, hb, hc1⟩ := h1.cell (j := k) (by omega)
      have hx := (bel.cell (p := ⟨b, o + k, none⟩) hb).trans hc1
      have next : ∀ d β', 0 ≤ d → d < 4294967296 → 0 ≤ β' → β' ≤ 1 → d - β' * 4294967296 = xs.getD k 0 - β - ys.getD k 0 → ∀ v' w3, w3.ownsRow w.heap.size 3 1 v' (zs.length + 1) (zs.map (Value.int .i64) ++ [.int .i64 d]) → Below w.heap.size w w3 → LessRel xs ys L w v' (.int .i64 β') (.int .i64 ((k : Int) + 1)) w3 := fun d β' d0 d1 e0 e1 hd v' w3 ho hb3 =>
        ⟨k + 1, β', zs ++ [d], rfl, rfl, by omega, e0, e1, by simpa using ho, by simp [len], good_snoc gd d0 d1, less_step len eq hd, hb3⟩
      have hsz := bel.size
      clear hc1 h1 eq
      by_cases hm : k < M
      · obtain ⟨b', o', rfl, hb', hc2⟩ := h2.cell (j := k) (by omega)
        have hy := (bel.cell (p := ⟨b', o' + k, none⟩) hb').trans hc2
        clear hc2 h2
        generalize xs.getD k 0 = x at *
        generalize ys.getD k 0 = y at *
        by_cases hneg : x - β - y < 0
        · have N := next (x - β - y + 4294967296) 1 (by omega) (by omega) (by omega) (by omega) (by omega)
          clear next
          go_wp2_with (at_builtin; refine wpList_append_own _ rfl _ _ 45 rfl w.heap.size 3 i0 (.int .i64 0) 1 8 Tryz.underlying45 hi hz0 hz1 hz2 rfl (by decide) _ _ _ rfl (own.alloc _) ⟨wr.heap.size, 0, none⟩ 1 1 [.int .i64 (x - β - y + 4294967296)] rfl rfl (cell1 _ _ _) one1 (by unfold maxLen; omega) (by omega) (by simp; omega) ?_; intro v' w3 hown' hgrow3 hnil3)
          go_roundw
          case rel => exact N _ _ hown' (below_append bel own hgrow3)
          case measure => simp [intOf]; omega
        · have N := next (x - β - y) 0 (by omega) (by omega) (by omega) (by omega) (by omega)
          clear next
          go_wp2_with (at_builtin; refine wpList_append_own _ rfl _ _ 45 rfl w.heap.size 3 i0 (.int .i64 0) 1 8 Tryz.underlying45 hi hz0 hz1 hz2 rfl (by decide) _ _ _ rfl (own.alloc _) ⟨wr.heap.size, 0, none⟩ 1 1 [.int .i64 (x - β - y)] rfl rfl (cell1 _ _ _) one1 (by unfold maxLen; omega) (by omega) (by simp; omega) ?_; intro v' w3 hown' hgrow3 hnil3)
          go_roundw
          case rel => exact N _ _ hown' (below_append bel own hgrow3)
          case measure => simp [intOf]; omega
      · have hy0 : ys.getD k 0 = 0 := getD_ge (by omega)
        rw [hy0] at next
        clear hy0 y0 y1 h2
        generalize xs.getD k 0 = x at *
        by_cases hneg : x - β < 0
        · have N := next (x - β + 4294967296) 1 (by omega) (by omega) (by omega) (by omega) (by omega)
          clear next
          go_wp2_with (at_builtin; refine wpList_append_own _ rfl _ _ 45 rfl w.heap.size 3 i0 (.int .i64 0) 1 8 Tryz.underlying45 hi hz0 hz1 hz2 rfl (by decide) _ _ _ rfl (own.alloc _) ⟨wr.heap.size, 0, none⟩ 1 1 [.int .i64 (x - β + 4294967296)] rfl rfl (cell1 _ _ _) one1 (by unfold maxLen; omega) (by omega) (by simp; omega) ?_; intro v' w3 hown' hgrow3 hnil3)
          go_roundw
          case rel => exact N _ _ hown' (below_append bel own hgrow3)
          case measure => simp [intOf]; omega
        · have N := next (x - β) 0 (by omega) (by omega) (by omega) (by omega) (by omega)
          clear next
          go_wp2_with (at_builtin; refine wpList_append_own _ rfl _ _ 45 rfl w.heap.size 3 i0 (.int .i64 0) 1 8 Tryz.underlying45 hi hz0 hz1 hz2 rfl (by decide) _ _ _ rfl (own.alloc _) ⟨wr.heap.size, 0, none⟩ 1 1 [.int .i64 (x - β)] rfl rfl (cell1 _ _ _) one1 (by unfold maxLen; omega) (by omega) (by simp; omega) ?_; intro v' w3 hown' hgrow3 hnil3)
          go_roundw
          case rel => exact N _ _ hown' (below_append bel own hgrow3)
          case measure => simp [intOf]; omega
    · obtain rfl : k = L := by omega
      have hb0 : val zs = val xs - val ys := by
        rw [List.take_of_length_le (by omega), List.take_of_length_le (by omega)] at eq
        have h3 := val_bounds gd
        rw [len] at h3
        have h4 := pw_pos k
        rcases (show β = 0 ∨ β = 1 by omega) with rfl | rfl
        · omega
        · rw [Int.one_mul] at eq; omega
      have hrow := RowK.of_owns hav bel.size own
      have hzl : zs.length ≤ 1048576 := by omega
      clear eq h1 h2
      go_wp2_with fail
      refine (cut_c hrow hzl).mono ?_
      rintro e w1 ⟨v1, q, rfl, hq, hr, hz, hn, rfl⟩
      have hr := hr _ hrow
      have hvq := val_cut hz
      go_wp2
      go_ret
      exact ⟨_, rfl, ⟨_, hr, good_take gd q, hn, hvq.trans hb0⟩, bel⟩
end Go.Proofs.YtfeapgpjchjphaaGreat
namespace Go.Proofs.YtfeapgpjchjphaaGreat
open Go Go.RowKit Go.Big
variable [Av]
/-- v is a slice with digits of n, at most so many. -/
def SumV (n : Int) (m : Nat) (w : World) (v : Value) : Prop := ∃ zs, RowK .i64 w v zs ∧ good zs ∧ val zs = n ∧ zs.length ≤ m
structure MoreI (xs ys : List Int) (T : Nat) (w : World) (out : Value) (c : Int) (k : Nat) (zs : List Int) (wr : World) : Prop where
  kT : k ≤ T + 1
  c0 : 0 ≤ c
  c1 : c ≤ 1
  past : T < k → c = 0
  own : wr.ownsRow w.heap.size 3 1 out zs.length (zs.map (Value.int .i64))
  len : zs.length = k
  gd : good zs
  eq : val (xs.take k) + val (ys.take k) = val zs + c * pw k
  bel : Below w.heap.size w wr
theorem more_step {xs ys zs : List Int} {c c' d : Int} {k : Nat} (hl : zs.length = k) (h : val (xs.take k) + val (ys.take k) = val zs + c * pw k) (hd : d + c' * 4294967296 = xs.getD k 0 + ys.getD k 0 + c) :
    val (xs.take (k + 1)) + val (ys.take (k + 1)) = val (zs ++ [d]) + c' * pw (k + 1) := by
  rw [val_take_any, val_take_any, val_snoc, pw_succ, hl]
  have : pw k * (d + c' * 4294967296) = pw k * (xs.getD k 0 + ys.getD k 0 + c) := by rw [hd]
  grind
def MoreRel (xs ys : List Int) (T : Nat) (w : World) (out cr i : Value) (wr : World) : Prop :=
  ∃ (k : Nat) (c : Int) (zs : List Int), cr = .int .i64 c ∧ i = .int .i64 k ∧ MoreI xs ys T w out c k zs wr
set_option maxHeartbeats 1600000 in
set_option maxRecDepth 100000 in
theorem more_c {w : World} {v u : Value} {xs ys : List Int} (h1 : RowK .i64 w v xs) (h2 : RowK .i64 w u ys) (g1 : good xs) (g2 : good ys) (T : Nat) (s1 : xs.length ≤ T) (s2 : ys.length ≤ T) (sT : T ≤ 1048576) :
    Calls Tryz.prog 59 #[v, u] w (Gets (SumV (val xs + val ys) (T + 1)) w) := by
  have hav := h1.av
  obtain ⟨i0, hi, hz0, hz1, hz2⟩ := info_parts Tryz.info3
  obtain ⟨a, c, rfl, hc⟩ := h1.len
  obtain ⟨a', c', rfl, hc'⟩ := h2.len
  generalize hL : xs.length = L at *
  generalize hM : ys.length = M at *
  go_enter Tryz.func59, Tryz.ntmps59
  go_wp2
  go_loopw [5, 6, 7] (MoreRel xs ys T w) (fun _ _ i _ => T + 2 - (intOf i).toNat)
  case atStart => exact ⟨0, 0, [], rfl, rfl, by omega, by omega, by omega, fun _ => rfl, World.ownsRow_nil _ _ _ _, rfl, good_nil, by simp [val], Below.refl _ _⟩
  case round =>
    obtain ⟨k, r, zs, rfl, rfl, kT, c0, c1, past, own, len, gd, eq, bel⟩ := hrel
    have gx := good_getD g1 k
    have gy := good_getD g2 k
    obtain ⟨x0, x1⟩ := gx
    obtain ⟨y0, y1⟩ := gy
    have hsz := bel.size
    have next : ∀ s : Int, s = xs.getD k 0 + ys.getD k 0 + r → k ≤ T → (T < k + 1 → s < 4294967296) → ∀ v' w3, w3.ownsRow w.heap.size 3 1 v' (zs.length + 1) (zs.map (Value.int .i64) ++ [.int .i64 (s % 4294967296)]) → Below w.heap.size w w3 → MoreRel xs ys T w v' (.int .i64 (s / 4294967296)) (.int .i64 ((k : Int) + 1)) w3 := fun s hs hk hp v' w3 ho hb3 =>
      ⟨k + 1, s / 4294967296, zs ++ [s % 4294967296], rfl, rfl, by omega, by omega, by omega, fun h => by have := hp h; omega, by simpa using ho, by simp [len], good_snoc gd (by omega) (by omega), more_step len eq (by omega), hb3⟩
    by_cases hk : k < L
    · obtain ⟨b, o, rfl, hb, hc1⟩ := h1.cell (j := k) (by omega)
      have hx := (bel.cell (p := ⟨b, o + k, none⟩) hb).trans hc1
      clear hc1 h1 eq
      by_cases hm : k < M
      · obtain ⟨b', o', rfl, hb', hc2⟩ := h2.cell (j := k) (by omega)
        have hy := (bel.cell (p := ⟨b', o' + k, none⟩) hb').trans hc2
        clear hc2 h2
        generalize xs.getD k 0 = x at *
        generalize ys.getD k 0 = y at *
        have N := next (r + x + y) (by omega) (by omega) (by omega)
        clear next past
        go_wp2_with (at_builtin; refine wpList_append_own _ rfl _ _ 45 rfl w.heap.size 3 i0 (.int .i64 0) 1 8 Tryz.underlying45 hi hz0 hz1 hz2 rfl (by decide) _ _ _ rfl (own.alloc _) ⟨wr.heap.size, 0, none⟩ 1 1 [.int .i64 ((r + x + y) % 4294967296)] rfl rfl (cell1 _ _ _) one1 (by unfold maxLen; omega) (by omega) (by simp; omega) ?_; intro v' w3 hown' hgrow3 hnil3)
        go_roundw
        case rel => exact N _ _ hown' (below_append bel own hgrow3)
        case measure => simp [intOf]; omega
      · have hy0 : ys.getD k 0 = 0 := getD_ge (by omega)
        rw [hy0] at next
        clear hy0 y0 y1 h2
        generalize xs.getD k 0 = x at *
        have N := next (r + x) (by omega) (by omega) (by omega)
        clear next past
        go_wp2_with (at_builtin; refine wpList_append_own _ rfl _ _ 45 rfl w.heap.size 3 i0 (.int .i64 0) 1 8 Tryz.underlying45 hi hz0 hz1 hz2 rfl (by decide) _ _ _ rfl (own.alloc _) ⟨wr.heap.size, 0, none⟩ 1 1 [.int .i64 ((r + x) % 4294967296)] rfl rfl (cell1 _ _ _) one1 (by unfold maxLen; omega) (by omega) (by simp; omega) ?_; intro v' w3 hown' hgrow3 hnil3)
        go_roundw
        case rel => exact N _ _ hown' (below_append bel own hgrow3)
        case measure => simp [intOf]; omega
    · have hx0 : xs.getD k 0 = 0 := getD_ge (by omega)
      rw [hx0] at next
      clear hx0 x0 x1
      by_cases hm : k < M
      · obtain ⟨b', o', rfl, hb', hc2⟩ := h2.cell (j := k) (by omega)
        have hy := (bel.cell (p := ⟨b', o' + k, none⟩) hb').trans hc2
        clear hc2 h2 h1 eq
        generalize ys.getD k 0 = y at *
        have N := next (r + y) (by omega) (by omega) (by omega)
        clear next past
        go_wp2_with (at_builtin; refine wpList_append_own _ rfl _ _ 45 rfl w.heap.size 3 i0 (.int .i64 0) 1 8 Tryz.underlying45 hi hz0 hz1 hz2 rfl (by decide) _ _ _ rfl (own.alloc _) ⟨wr.heap.size, 0, none⟩ 1 1 [.int .i64 ((r + y) % 4294967296)] rfl rfl (cell1 _ _ _) one1 (by unfold maxLen; omega) (by omega) (by simp; omega) ?_; intro v' w3 hown' hgrow3 hnil3)
        go_roundw
        case rel => exact N _ _ hown' (below_append bel own hgrow3)
        case measure => simp [intOf]; omega
      · have hy0 : ys.getD k 0 = 0 := getD_ge (by omega)
        rw [hy0] at next
        clear hy0 y0 y1
        by_cases hr : r = 1
        · subst hr
          have hkT : k ≤ T := by
            rcases Nat.lt_or_ge T k with h | h
            · have := past h; omega
            · exact h
          have N := next 1 (by omega) hkT (by omega)
          clear next past h1 h2 eq
          go_wp2_with (at_builtin; refine wpList_append_own _ rfl _ _ 45 rfl w.heap.size 3 i0 (.int .i64 0) 1 8 Tryz.underlying45 hi hz0 hz1 hz2 rfl (by decide) _ _ _ rfl (own.alloc _) ⟨wr.heap.size, 0, none⟩ 1 1 [.int .i64 ((1) % 4294967296)] rfl rfl (cell1 _ _ _) one1 (by unfold maxLen; omega) (by omega) (by simp; omega) ?_; intro v' w3 hown' hgrow3 hnil3)
          go_roundw
          case rel => exact N _ _ hown' (below_append bel own hgrow3)
          case measure => simp [intOf]; omega
        · obtain rfl : r = 0 := by omega
          have hrow := RowK.of_owns hav bel.size own
          have hv : val zs = val xs + val ys := by
            rw [List.take_of_length_le (by omega), List.take_of_length_le (by omega)] at eq
            omega
          clear next past h1 h2 eq
          go_wp2
          go_ret
          exact ⟨_, rfl, ⟨zs, hrow, gd, hv, by omega⟩, bel⟩
end Go.Proofs.YtfeapgpjchjphaaGreat
namespace Go.Proofs.YtfeapgpjchjphaaGreat
open Go Go.RowKit Go.Big
variable [Av]
theorem made_zeros (n : Nat) : (madeCells #[Value.int .i64 0] n).toList = (List.replicate n (0 : Int)).map (Value.int .i64) := by
  apply List.ext_getElem
  · simp [madeCells]
  · intro i h1 h2
    simp [madeCells, Nat.mod_one]
/-- What holds of the row that is being filled. -/
structure ProdI (w : World) (n m : Nat) (wr : World) (os : List Int) : Prop where
  own : wr.ownsRow w.heap.size 3 1 (.slice (some ⟨w.heap.size, 0, none⟩) n n) n (os.map (Value.int .i64))
  len : os.length = n
  gd : good os
  zero : ∀ t, m ≤ t → os.getD t 0 = 0
  bel : Below w.heap.size w wr
theorem ProdI.cell {w wr : World} {n m : Nat} {os : List Int} (h : ProdI w n m wr os) {j : Nat} (hj : j < n) : wr.cell? ⟨w.heap.size, j, none⟩ = some (.int .i64 (os.getD j 0)) := by
  rw [h.own.cellAt j (by omega)]
  have := h.len
  simp [List.getD, show j < os.length by omega]
theorem ProdI.fz {w wr : World} {n m : Nat} {os : List Int} (h : ProdI w n m wr os) (j : Nat) : wr.frozen? ⟨w.heap.size, j, none⟩ = false := by
  rcases h.own.2 with ⟨h1, _⟩ | ⟨g, cap, cur, h1, _, hg, _⟩
  · cases h1
  · injection h1 with h2
    injection h2 with h3
    injection h3 with h4
    subst h4
    simp [World.frozen?, hg]
theorem ProdI.drewN {w wr : World} {n m : Nat} {os : List Int} (h : ProdI w n m wr os) (k : Nat) : ProdI w n m (wr.drewN k) os := ⟨h.own, h.len, h.gd, h.zero, below_drewN h.bel⟩
theorem ProdI.set {w wr : World} {n m m' : Nat} {os : List Int} (h : ProdI w n m wr os) {j : Nat} {d : Int} (hj : j < m') (hm : m ≤ m') (d0 : 0 ≤ d) (d1 : d < 4294967296) : ProdI w n m' (wr.setCell ⟨w.heap.size, j, none⟩ (.int .i64 d)) (os.set j d) := by
  obtain ⟨h1, h2⟩ := h.own.stored j (.int .i64 d)
  refine ⟨by rw [List.map_set]; exact h1, by simp [h.len], good_set h.gd d0 d1, fun t ht => by rw [getD_set_other (by omega)]; exact h.zero t (by omega), h.bel.setCell (by simp) _⟩
def InRel (w : World) (n m : Nat) (V X : Int) (ys : List Int) (i M : Nat) (cr j : Value) (wr : World) : Prop :=
  ∃ (q : Nat) (c : Int) (os : List Int), cr = .int .u64 c ∧ j = .int .i64 q ∧ q ≤ M ∧ 0 ≤ c ∧ c < 4294967296 ∧ ProdI w n m wr os ∧ val os + c * pw (i + q) = V + X * pw i * val (ys.take q)
def OutRel (w : World) (n L M : Nat) (xs ys : List Int) (i : Value) (wr : World) : Prop :=
  ∃ (p : Nat) (os : List Int), i = .int .i64 p ∧ p ≤ L ∧ ProdI w n (p + M) wr os ∧ val os = val (xs.take p) * val ys
theorem prod_in {os ys : List Int} {V X c s : Int} {i q : Nat} (hj : i + q < os.length) (h : val os + c * pw (i + q) = V + X * pw i * val (ys.take q)) (hs : s = c + os.getD (i + q) 0 + X * ys.getD q 0) :
    val (os.set (i + q) (s % 4294967296)) + (s / 4294967296) * pw (i + (q + 1)) = V + X * pw i * val (ys.take (q + 1)) := by
  rw [val_set hj, val_take_any, ← Nat.add_assoc, pw_succ, pw_add]
  rw [pw_add] at h
  have hd : s % 4294967296 = s - 4294967296 * (s / 4294967296) := by omega
  rw [hd]
  generalize s / 4294967296 = z at *
  subst hs
  grind
theorem prod_out {os : List Int} {v X c Y : Int} {i M : Nat} (hj : i + M < os.length) (h0 : os.getD (i + M) 0 = 0) (h : val os + c * pw (i + M) = v * Y + X * pw i * Y) : val (os.set (i + M) c) = (v + pw i * X) * Y := by
  rw [val_set hj, h0]
  grind
set_option maxHeartbeats 1600000 in
set_option maxRecDepth 100000 in
theorem product_c {w : World} {v u : Value} {xs ys : List Int} (h1 : RowK .i64 w v xs) (h2 : RowK .i64 w u ys) (g1 : good xs) (g2 : good ys) (s1 : xs.length ≤ 262144) (s2 : ys.length ≤ 262144) :
    Calls Tryz.prog 58 #[v, u] w (Gets (DigV (val xs * val ys)) w) := by
  have hav := h1.av
  obtain ⟨i0, hi, hz0, hz1, hz2⟩ := info_parts Tryz.info3
  obtain ⟨a, c, rfl, hc⟩ := h1.len
  obtain ⟨a', c', rfl, hc'⟩ := h2.len
  generalize hL : xs.length = L at *
  generalize hM : ys.length = M at *
  go_enter Tryz.func58, Tryz.ntmps58
  go_wp2_with (at_make; refine wpList_make_full _ rfl _ _ 45 rfl w.heap.size 3 i0 (.int .i64 0) 1 Tryz.underlying45 hi hz0 hz1 _ _ _ _ (L + M) rfl rfl (by omega) (by omega) (by rw [hz2]; omega) (by unfold maxLen; omega) (Nat.le_refl _) ?_)
  intro w0 hown0 hgrow0
  rw [made_zeros] at hown0
  go_wp2
  go_loopw [6] (OutRel w (L + M) L M xs ys) (fun i _ => L - (intOf i).toNat)
  case atStart => exact ⟨0, List.replicate (L + M) 0, rfl, Nat.zero_le _, ⟨hown0, by simp, good_zeros _, fun t _ => getD_zeros _ _, (Below.refl _ _).grown hgrow0 (Nat.le_refl _) (fun k h => by cases h)⟩, by rw [val_zeros]; simp [val]⟩
  case round =>
    obtain ⟨p, os, rfl, hp, I, hV⟩ := hrel
    by_cases hpL : p < L
    · obtain ⟨x0, x1⟩ := good_getD g1 p
      obtain ⟨b, o, rfl, hb, hc1⟩ := h1.cell (j := p) (by omega)
      go_wp2
      go_loopw [7, 8] (InRel w (L + M) (p + M) (val os) (xs.getD p 0) ys p M) (fun _ j _ => M - (intOf j).toNat)
      case atStart => exact ⟨0, 0, os, rfl, rfl, Nat.zero_le _, by omega, by omega, I, by simp [val]⟩
      case round =>
        obtain ⟨q, r, os', rfl, rfl, hq, r0, r1, I', hE⟩ := hrel
        by_cases hqM : q < M
        · obtain ⟨y0, y1⟩ := good_getD g2 q
          obtain ⟨b', o', rfl, hb', hc2⟩ := h2.cell (j := q) (by omega)
          have hx := (I'.bel.cell (p := ⟨b, o + p, none⟩) hb).trans hc1
          have hy := (I'.bel.cell (p := ⟨b', o' + q, none⟩) hb').trans hc2
          have ho := I'.cell (j := p + q) (by omega)
          obtain ⟨o0, o1⟩ := good_getD I'.gd (p + q)
          have hfz := I'.fz (p + q)
          have hnew := fun k => (I'.drewN k).set (m' := p + M) (j := p + q) (d := (r + os'.getD (p + q) 0 + xs.getD p 0 * ys.getD q 0) % 4294967296) (by omega) (Nat.le_refl _) (by omega) (by omega)
          have hval := prod_in (by have := I'.len; omega) hE rfl
          obtain ⟨m0, m1⟩ := mul_bound x0 x1 y0 y1
          generalize xs.getD p 0 = x at *
          generalize ys.getD q 0 = y at *
          generalize os'.getD (p + q) 0 = z at *
          clear h1 h2 hE I hV hc1 hc2
          have hdone : ∀ k, InRel w (L + M) (p + M) (val os) x ys p M (.int .u64 ((r + z + x * y) / 4294967296)) (.int .i64 ((q : Int) + 1)) ((wr.drewN k).setCell ⟨w.heap.size, p + q, none⟩ (.int .i64 ((r + z + x * y) % 4294967296))) := fun k =>
            ⟨q + 1, _, _, rfl, rfl, by omega, by omega, by omega, hnew k, hval⟩
          clear hnew hval
          go_wp2
          go_quiet (skip)
          go_wp2
          go_roundw
          case rel => exact hdone _
          case measure => simp [intOf]; omega
        · obtain rfl : q = M := by omega
          have hz : os'.getD (p + q) 0 = 0 := I'.zero _ (Nat.le_refl _)
          have hfz := I'.fz (p + q)
          have hcell := I'.cell (j := p + q) (by omega)
          have hnew := I'.set (m' := p + q + 1) (j := p + q) (d := r) (by omega) (by omega) r0 r1
          rw [List.take_of_length_le (show ys.length ≤ q by omega), hV] at hE
          have hval := prod_out (by have := I'.len; omega) hz hE
          have hdone : OutRel w (L + q) L q xs ys (.int .i64 ((p : Int) + 1)) (wr.setCell ⟨w.heap.size, p + q, none⟩ (.int .i64 r)) :=
            ⟨p + 1, _, rfl, by omega, by rw [show p + 1 + q = p + q + 1 by omega]; exact hnew, by rw [hval, val_take_any]⟩
          clear h1 h2 hE I hV hc1 hnew hval I'
          go_wp2
          go_roundw
          case rel => exact hdone
          case measure => simp [intOf]; omega
    · obtain rfl : p = L := by omega
      have hrow := RowK.of_owns hav I.bel.size I.own
      have hbel := I.bel
      have hzl : os.length ≤ 1048576 := by have := I.len; omega
      rw [List.take_of_length_le (show xs.length ≤ p by omega)] at hV
      have hg := I.gd
      clear I h1 h2
      go_wp2_with fail
      refine (cut_c hrow (by omega)).mono ?_
      rintro e w1 ⟨v1, q, rfl, hq, hr, hz, hn, rfl⟩
      have hr := hr _ hrow
      have hvq := val_cut hz
      go_wp2
      go_ret
      exact ⟨_, rfl, ⟨_, hr, good_take hg q, hn, hvq.trans hV⟩, hbel⟩
end Go.Proofs.YtfeapgpjchjphaaGreat
namespace Go.Proofs.YtfeapgpjchjphaaGreat
open Go Go.RowKit Go.Big
attribute [local instance] noAv
/-- The value of eight words. -/
def wval : List Int → Int
  | [] => 0
  | x :: xs => x + 18446744073709551616 * wval xs
def wgood (ws : List Int) : Prop := ∀ x ∈ ws, 0 ≤ x ∧ x < 18446744073709551616
def halfs : List Int → List Int
  | [] => []
  | x :: xs => x % 4294967296 :: x / 4294967296 :: halfs xs
theorem halfs_len : ∀ ws, (halfs ws).length = 2 * ws.length
  | [] => rfl
  | x :: xs => by simp [halfs, halfs_len xs]; omega
theorem halfs_val : ∀ ws, val (halfs ws) = wval ws
  | [] => rfl
  | x :: xs => by simp only [halfs, val_cons, wval, halfs_val xs]; omega
theorem halfs_good : ∀ {ws}, wgood ws → good (halfs ws)
  | [], _ => good_nil
  | x :: xs, h => by
    have h1 := h x (by simp)
    have h2 := halfs_good (ws := xs) fun y hy => h y (by simp [hy])
    simp only [halfs]
    exact good_cons.2 ⟨by omega, good_cons.2 ⟨by omega, h2⟩⟩
theorem halfs_snoc : ∀ (ws : List Int) (x : Int), halfs (ws ++ [x]) = halfs ws ++ [x % 4294967296, x / 4294967296]
  | [], x => rfl
  | y :: ws, x => by simp [halfs, halfs_snoc ws x]
def HalfRel (ws : List Int) (w : World) (out i : Value) (wr : World) : Prop :=
  ∃ k : Nat, i = .int .i64 k ∧ k ≤ 8 ∧ wr.ownsRow (w.heap.size + 1) 3 1 out (halfs (ws.take k)).length ((halfs (ws.take k)).map (Value.int .i64)) ∧ Below w.heap.size w wr ∧ w.heap.size < wr.heap.size ∧
    ∀ j, j < 8 → wr.cell? ⟨w.heap.size, j, none⟩ = some (.int .u64 (ws.getD j 0))
set_option maxHeartbeats 1600000 in
set_option maxRecDepth 100000 in
theorem halves_c {w : World} {ws : List Int} (hl : ws.length = 8) (hg : wgood ws) :
    Calls Tryz.prog 68 #[.agg (ws.map (Value.int .u64)).toArray] w (Gets (fun w' v => RowK .i64 w' v (halfs ws)) w) := by
  obtain ⟨i0, hi, hz0, hz1, hz2⟩ := info_parts Tryz.info3
  have hcells : ∀ j, j < 8 → (w.alloc (.cells (ws.map (Value.int .u64)).toArray 26)).cell? ⟨w.heap.size, j, none⟩ = some (.int .u64 (ws.getD j 0)) := fun j hj => by
    rw [World.cell?_alloc_at _ _ _ _ rfl]; simp [List.getD, show j < ws.length by omega]
  generalize hA : (ws.map (Value.int .u64)).toArray = A at *
  go_enter Tryz.func68, Tryz.ntmps68
  go_wp2
  go_loopw [3, 4] (HalfRel ws w) (fun _ i _ => 8 - (intOf i).toNat)
  case atStart => exact ⟨0, rfl, by omega, World.ownsRow_nil _ _ _ _, (Below.refl _ _).alloc (Nat.le_refl _) _, by simp, hcells⟩
  case round =>
    obtain ⟨k, rfl, hk, own, bel, hlt, hc⟩ := hrel
    by_cases hk8 : k < 8
    · have hx := hc k hk8
      have gx : 0 ≤ ws.getD k 0 ∧ ws.getD k 0 < 18446744073709551616 := by
        simp only [List.getD, List.getElem?_eq_getElem (show k < ws.length by omega), Option.getD_some]
        exact hg _ (List.getElem_mem _)
      obtain ⟨x0, x1⟩ := gx
      have hsn : halfs (ws.take (k + 1)) = halfs (ws.take k) ++ [ws.getD k 0 % 4294967296, ws.getD k 0 / 4294967296] := by rw [take_succ (by omega), halfs_snoc]
      generalize ws.getD k 0 = x at hx x0 x1 hsn
      have h16 : (halfs (ws.take k)).length ≤ 16 := by rw [halfs_len, List.length_take]; omega
      have e1 : IntKind.i64.wrap (x.tmod 4294967296) = x % 4294967296 := by
        rw [Int.tmod_eq_emod_of_nonneg x0, IntWalk.i64_in _ (by omega)]
      have e2 : IntKind.i64.wrap (IntKind.u64.wrap (x.tdiv 4294967296)) = x / 4294967296 := by
        rw [Int.tdiv_eq_ediv_of_nonneg x0, IntWalk.u64_in _ (by omega), IntWalk.i64_in _ (by omega)]
      have hE : ∀ (v' : Value) (n : Nat) (w3 : World), w3.ownsRow (w.heap.size + 1) 3 1 v' n ((halfs (ws.take k)).map (Value.int .i64) ++ [.int .i64 (IntKind.i64.wrap (x.tmod 4294967296)), .int .i64 (IntKind.i64.wrap (IntKind.u64.wrap (x.tdiv 4294967296)))]) → w3.ownsRow (w.heap.size + 1) 3 1 v' (halfs (ws.take (k + 1))).length ((halfs (ws.take (k + 1))).map (Value.int .i64)) := fun v' n w3 h => by
        rw [e1, e2] at h
        have h0 := h.1
        rw [hsn]
        simp only [List.length_append, List.length_map, List.length_cons, List.length_nil, Nat.mul_one] at h0
        simp only [List.length_append, List.map_append, List.map_cons, List.map_nil, List.length_cons, List.length_nil]
        rw [h0]; exact h
      have hcc : Hid (∀ j, j < 8 → wr.cell? ⟨w.heap.size, j, none⟩ = some (.int .u64 (ws.getD j 0))) := Lib.hid hc
      clear e1 e2 hsn hc
      go_wp2
      go_region_law (refine step_append_lies _ rfl (.tmp 9) (.tmp 20) 45 rfl (w.heap.size + 1) 3 i0 (.int .i64 0) 1 8 Tryz.underlying45 hi hz0 hz1 hz2 rfl (by decide) u3 (halfs (ws.take k)).length _ (by simp [Act.eval, Act.put]) (own.drew.alloc _) ⟨wr.heap.size, 0, none⟩ 2 2 [.int .i64 (IntKind.i64.wrap (x.tmod 4294967296)), .int .i64 (IntKind.i64.wrap (IntKind.u64.wrap (x.tdiv 4294967296)))] (by simp [Act.eval, Act.put]) rfl (cell2 wr.drew _ _ _) one2 (by decide) (by unfold maxLen; omega) (by omega) (by simp; omega) _ rfl ?_; intro g cap w3 hown' hgrow3 hor hlt')
      all_goals
        have B1 : Below (w.heap.size + 1) wr w3 := (((Below.refl _ wr).drew).alloc (show w.heap.size + 1 ≤ wr.heap.size by omega) _).grown hgrow3 (by simp; omega) (own_base own)
        have R : HalfRel ws w (.slice (some ⟨g, 0, none⟩) ((halfs (ws.take k)).length + 2) cap) (.int .i64 ((k : Int) + 1)) w3 :=
          ⟨k + 1, rfl, by omega, hE _ _ _ hown', bel.trans (B1.mono (by omega)), by have := B1.size; omega, fun j hj => (B1.cell (p := ⟨w.heap.size, j, none⟩) (by simp)).trans (hcc.out j hj)⟩
        clear hE hcc bel own B1 hown' hgrow3
        go_wp2
        go_roundw
        case rel => exact R
        case measure => simp [intOf]; omega
    · obtain rfl : k = 8 := by omega
      rw [List.take_of_length_le (by omega)] at own
      have hrow := RowK.own0 own
      clear own hc
      go_wp2
      go_ret
      exact ⟨_, rfl, hrow, bel⟩
end Go.Proofs.YtfeapgpjchjphaaGreat
namespace Go.Proofs.YtfeapgpjchjphaaGreat
open Go Go.RowKit Go.Big
variable [Av]
theorem heap3 (w : World) (o1 o2 o3 : Obj) : (((w.alloc o1).alloc o2).alloc o3).heap[w.heap.size]? = some o1 ∧ (((w.alloc o1).alloc o2).alloc o3).heap[w.heap.size + 1]? = some o2 ∧ (((w.alloc o1).alloc o2).alloc o3).heap[w.heap.size + 1 + 1]? = some o3 := by
  have n1 : ∀ (W : World) (o : Obj), (W.alloc o).heap[W.heap.size]? = some o := fun W o => (MapKept.heap_alloc W o).1
  have e1 := n1 w o1
  have e2 := n1 (w.alloc o1) o2
  have e3 := n1 ((w.alloc o1).alloc o2) o3
  have z1 : (w.alloc o1).heap.size = w.heap.size + 1 := by simp
  have z2 : ((w.alloc o1).alloc o2).heap.size = w.heap.size + 1 + 1 := by simp
  rw [z1] at e2
  rw [z2] at e3
  have B2 := (Below.refl (w.heap.size + 1) (w.alloc o1)).alloc (by simp) o2
  have B3 := (Below.refl (w.heap.size + 1 + 1) ((w.alloc o1).alloc o2)).alloc (by simp) o3
  exact ⟨(B3.block _ (by omega)).trans ((B2.block _ (by omega)).trans e1), (B3.block _ (by omega)).trans e2, e3⟩
theorem cellOf {W : World} {b j : Nat} {cs : Array Value} {t : TypeId} {fr : Nat × Nat} (h : W.heap[b]? = some (.cells cs t fr)) : W.cell? ⟨b, j, none⟩ = cs[j]? := by
  simp [World.cell?, h]
theorem frozenOf {W : World} {b j : Nat} {cs : Array Value} {t : TypeId} (h : W.heap[b]? = some (.cells cs t (0, 0))) : W.frozen? ⟨b, j, none⟩ = false := by
  simp [World.frozen?, h]
/-- The three boxes of a call with two integers and a result. -/
theorem boxes3 {w W : World} {x1 x2 y1 y2 z1 z2 : Value} {t : TypeId} (hb : Below (w.heap.size + 1 + 1 + 1) (((w.alloc (.cells #[x1, x2] t)).alloc (.cells #[y1, y2] t)).alloc (.cells #[z1, z2] t)) W) :
    W.cell? ⟨w.heap.size, 0, none⟩ = some x1 ∧ W.cell? ⟨w.heap.size, 1, none⟩ = some x2 ∧ W.cell? ⟨w.heap.size + 1, 0, none⟩ = some y1 ∧ W.cell? ⟨w.heap.size + 1, 1, none⟩ = some y2 ∧ W.cell? ⟨w.heap.size + 1 + 1, 0, none⟩ = some z1 ∧ W.cell? ⟨w.heap.size + 1 + 1, 1, none⟩ = some z2 ∧ W.frozen? ⟨w.heap.size + 1 + 1, 0, none⟩ = false ∧ W.frozen? ⟨w.heap.size + 1 + 1, 1, none⟩ = false := by
  obtain ⟨h1, h2, h3⟩ := heap3 w (.cells #[x1, x2] t) (.cells #[y1, y2] t) (.cells #[z1, z2] t)
  have k1 := (hb.block w.heap.size (by omega)).trans h1
  have k2 := (hb.block (w.heap.size + 1) (by omega)).trans h2
  have k3 := (hb.block (w.heap.size + 1 + 1) (by omega)).trans h3
  exact ⟨cellOf k1, cellOf k1, cellOf k2, cellOf k2, cellOf k3, cellOf k3, frozenOf k3, frozenOf k3⟩
theorem boxes2 {w W : World} {x1 x2 y1 y2 z1 z2 : Value} {t : TypeId} (hb : Below (w.heap.size + 1 + 1) (((w.alloc (.cells #[x1, x2] t)).alloc (.cells #[y1, y2] t)).alloc (.cells #[z1, z2] t)) W) :
    W.cell? ⟨w.heap.size, 0, none⟩ = some x1 ∧ W.cell? ⟨w.heap.size, 1, none⟩ = some x2 ∧ W.cell? ⟨w.heap.size + 1, 0, none⟩ = some y1 ∧ W.cell? ⟨w.heap.size + 1, 1, none⟩ = some y2 := by
  obtain ⟨h1, h2, h3⟩ := heap3 w (.cells #[x1, x2] t) (.cells #[y1, y2] t) (.cells #[z1, z2] t)
  have k1 := (hb.block w.heap.size (by omega)).trans h1
  have k2 := (hb.block (w.heap.size + 1) (by omega)).trans h2
  exact ⟨cellOf k1, cellOf k1, cellOf k2, cellOf k2⟩
theorem below3 {w W : World} {o1 o2 o3 : Obj} (hb : Below (w.heap.size + 1 + 1 + 1) (((w.alloc o1).alloc o2).alloc o3) W) : Below w.heap.size w W :=
  ((((Below.refl _ _).alloc (Nat.le_refl _) o1).alloc (by simp) o2).alloc (by simp; omega) o3).trans (hb.mono (by omega))
theorem start3 (w : World) (o1 o2 o3 : Obj) : Below (w.heap.size + 1 + 1 + 1) (((w.alloc o1).alloc o2).alloc o3) (((w.alloc o1).alloc o2).alloc o3) := Below.refl _ _
theorem next3 {w W W' : World} {o1 o2 o3 : Obj} (hb : Below (w.heap.size + 1 + 1 + 1) (((w.alloc o1).alloc o2).alloc o3) W) (h : Below W.heap.size W W') : Below (w.heap.size + 1 + 1 + 1) (((w.alloc o1).alloc o2).alloc o3) W' :=
  hb.trans (h.mono (by have := hb.size; simp at this; omega))
set_option maxHeartbeats 1600000 in
set_option maxRecDepth 100000 in
theorem lplus_same {w : World} {p : Bool} {s t : Value} {xs ys : List Int} (h1 : RowK .i64 w s xs) (h2 : RowK .i64 w t ys) (g1 : good xs) (g2 : good ys) (s1 : xs.length ≤ 1048575) (s2 : ys.length ≤ 1048575) :
    Calls Tryz.prog 33 #[.agg #[.bool p, s], .agg #[.bool p, t]] w (Gets (fun w' x => LongV w' x (sgz p (val xs + val ys))) w) := by
  obtain ⟨a, c, rfl, hc⟩ := h1.len
  obtain ⟨a', c', rfl, hc'⟩ := h2.len
  generalize hL : xs.length = L at *
  generalize hM : ys.length = M at *
  have b0 := fun o1 o2 o3 => (start3 w o1 o2 o3).drew
  go_enter Tryz.func33, Tryz.ntmps33
  go_wp2
  go_region_held3 (fun w' => w'.cell? ⟨w.heap.size, 0, none⟩ = some (.bool p) ∧ w'.cell? ⟨w.heap.size, 1, none⟩ = some (.slice a L c) ∧ w'.cell? ⟨w.heap.size + 1, 0, none⟩ = some (.bool p) ∧ w'.cell? ⟨w.heap.size + 1, 1, none⟩ = some (.slice a' M c')  )
    (first | exact boxes2 ((b0 _ _ _).mono (by omega)) | exact boxes2 (b1.mono (by omega)) | exact boxes2 (b2.mono (by omega)) | exact boxes2 (((b2.mono (by omega)).setCell (by simp) _).setCell (by simp) _))
    (first | (go_at_call 59; refine (more_c (h1.below (below3 (b0 _ _ _))) (h2.below (below3 (b0 _ _ _))) g1 g2 1048575 (by omega) (by omega) (by omega)).mono ?_; rintro e w1 ⟨x, rfl, ⟨zs, hz, gz, vz, lz⟩, hb⟩; have b1 := next3 (b0 _ _ _) hb) | (go_at_call 57; refine (made_c p hz gz (by omega)).mono ?_; rintro e w2 ⟨y, rfl, ⟨bb, ss, zz, rfl, hr, hy⟩, hb2⟩; obtain ⟨sa, sc, rfl, hsl⟩ := hr.len; have b2 := next3 b1 hb2; obtain ⟨_, _, _, _, z1, z2, z3, z4⟩ := boxes3 b2))
  have F := LongV.box2 ⟨bb, _, zz, rfl, hr, hy⟩ z1 z2 (.bool bb) (.slice sa zz.length sc)
  have hB := below3 b2
  have hB : Below w.heap.size w ((w2.setCell ⟨w.heap.size + 1 + 1, 0, none⟩ (.bool bb)).setCell ⟨w.heap.size + 1 + 1, 1, none⟩ (.slice sa zz.length sc)) := (hB.setCell (by simp; omega) _).setCell (by simp; omega) _
  rw [vz] at F
  go_wp2
  exact bodyPost_ret (v := .agg #[.bool bb, .slice sa zz.length sc]) (by simp [results, Tryz.results33, go_sem, z1, z2]) rfl ⟨_, rfl, F, hB⟩
end Go.Proofs.YtfeapgpjchjphaaGreat
namespace Go.Proofs.YtfeapgpjchjphaaGreat
open Go Go.RowKit Go.Big
variable [Av]
theorem len_le {xs ys : List Int} (g1 : good xs) (g2 : good ys) (n2 : norm ys) (h : val ys ≤ val xs) : ys.length ≤ xs.length := by
  rcases Nat.lt_or_ge xs.length ys.length with h' | h'
  · have := norm_len g1 g2 n2 h'; omega
  · exact h'
set_option maxHeartbeats 1600000 in
set_option maxRecDepth 100000 in
theorem lplus_ge {w : World} {p q : Bool} (hpq : p ≠ q) {s t : Value} {xs ys : List Int} (h1 : RowK .i64 w s xs) (h2 : RowK .i64 w t ys) (g1 : good xs) (g2 : good ys) (n1 : norm xs) (n2 : norm ys) (s1 : xs.length ≤ 1048575) (s2 : ys.length ≤ 1048575) (hge : val ys ≤ val xs) :
    Calls Tryz.prog 33 #[.agg #[.bool p, s], .agg #[.bool q, t]] w (Gets (fun w' x => LongV w' x (sgz p (val xs - val ys))) w) := by
  have hle := len_le g1 g2 n2 hge
  obtain ⟨a, c, rfl, hc⟩ := h1.len
  obtain ⟨a', c', rfl, hc'⟩ := h2.len
  generalize hL : xs.length = L at *
  generalize hM : ys.length = M at *
  have b0 := start3 w
  have hne : (p == q) = false := by cases p <;> cases q <;> simp_all
  go_enter Tryz.func33, Tryz.ntmps33
  go_wp2_with fail
  refine (order_c (h1.below (below3 (b0 _ _ _))) (h2.below (below3 (b0 _ _ _))) g1 g2 n1 n2 (by omega) (by omega)).mono ?_
  rintro e w1 ⟨x, rfl, ⟨r, rfl, hr1, hr2⟩, hb⟩
  have b1 := next3 (b0 _ _ _) hb
  have hr : 0 ≤ r := by omega
  have k1 := h1.below (below3 b1)
  have k2 := h2.below (below3 b1)
  obtain ⟨c1, c2, c3, c4⟩ := boxes2 (b1.mono (by omega))
  clear h1 h2 hr1 hr2
  go_wp2
  go_region_held3 (fun w' => w'.cell? ⟨w.heap.size, 0, none⟩ = some (.bool p) ∧ w'.cell? ⟨w.heap.size, 1, none⟩ = some (.slice a L c) ∧ w'.cell? ⟨w.heap.size + 1, 0, none⟩ = some (.bool q) ∧ w'.cell? ⟨w.heap.size + 1, 1, none⟩ = some (.slice a' M c'))
    (first | exact boxes2 (b1.mono (by omega)) | exact boxes2 (b1.drew.mono (by omega)) | exact boxes2 (b3.mono (by omega)) | exact boxes2 (b2.mono (by omega)) | exact boxes2 (((b2.mono (by omega)).setCell (by simp) _).setCell (by simp) _))
    (first | (go_at_call 61; refine (less_c k1.drew k2.drew g1 g2 (by omega) hge (by omega)).mono ?_; rintro e w3 ⟨x, rfl, ⟨zs, hz, gz, nz, vz⟩, hb3⟩; have b3 := next3 b1.drew hb3; have lz := len_le (g1) gz nz (by have := (val_bounds g2).1; omega)) | (go_at_call 57; refine (made_c p hz gz (by omega)).mono ?_; rintro e w2 ⟨y, rfl, ⟨bb, ss, zz, rfl, hr, hy⟩, hb2⟩; obtain ⟨sa, sc, rfl, hsl⟩ := hr.len; have b2 := next3 b3 hb2; obtain ⟨_, _, _, _, z1, z2, z3, z4⟩ := boxes3 b2))
  have F := LongV.box2 ⟨bb, _, zz, rfl, hr, hy⟩ z1 z2 (.bool bb) (.slice sa zz.length sc)
  have hB := below3 b2
  have hB : Below w.heap.size w ((w2.setCell ⟨w.heap.size + 1 + 1, 0, none⟩ (.bool bb)).setCell ⟨w.heap.size + 1 + 1, 1, none⟩ (.slice sa zz.length sc)) := (hB.setCell (by simp; omega) _).setCell (by simp; omega) _
  rw [vz] at F
  go_wp2
  exact bodyPost_ret (v := .agg #[.bool bb, .slice sa zz.length sc]) (by simp [results, Tryz.results33, go_sem, z1, z2]) rfl ⟨_, rfl, F, hB⟩
end Go.Proofs.YtfeapgpjchjphaaGreat
namespace Go.Proofs.YtfeapgpjchjphaaGreat
open Go Go.RowKit Go.Big
variable [Av]
set_option maxHeartbeats 1600000 in
set_option maxRecDepth 100000 in
theorem lplus_lt {w : World} {p q : Bool} (hpq : p ≠ q) {s t : Value} {xs ys : List Int} (h1 : RowK .i64 w s xs) (h2 : RowK .i64 w t ys) (g1 : good xs) (g2 : good ys) (n1 : norm xs) (n2 : norm ys) (s1 : xs.length ≤ 1048575) (s2 : ys.length ≤ 1048575) (hlt : val xs < val ys) :
    Calls Tryz.prog 33 #[.agg #[.bool p, s], .agg #[.bool q, t]] w (Gets (fun w' x => LongV w' x (sgz q (val ys - val xs))) w) := by
  have hle := len_le g2 g1 n1 (by omega)
  obtain ⟨a, c, rfl, hc⟩ := h1.len
  obtain ⟨a', c', rfl, hc'⟩ := h2.len
  generalize hL : xs.length = L at *
  generalize hM : ys.length = M at *
  have b0 := start3 w
  have hne : (p == q) = false := by cases p <;> cases q <;> simp_all
  go_enter Tryz.func33, Tryz.ntmps33
  go_wp2_with fail
  refine (order_c (h1.below (below3 (b0 _ _ _))) (h2.below (below3 (b0 _ _ _))) g1 g2 n1 n2 (by omega) (by omega)).mono ?_
  rintro e w1 ⟨x, rfl, ⟨r, rfl, hr1, hr2⟩, hb⟩
  have b1 := next3 (b0 _ _ _) hb
  have hr : r < 0 := by omega
  have k1 := h1.below (below3 b1)
  have k2 := h2.below (below3 b1)
  obtain ⟨c1, c2, c3, c4⟩ := boxes2 (b1.mono (by omega))
  clear h1 h2 hr1 hr2
  go_wp2
  go_region_held3 (fun w' => w'.cell? ⟨w.heap.size, 0, none⟩ = some (.bool p) ∧ w'.cell? ⟨w.heap.size, 1, none⟩ = some (.slice a L c) ∧ w'.cell? ⟨w.heap.size + 1, 0, none⟩ = some (.bool q) ∧ w'.cell? ⟨w.heap.size + 1, 1, none⟩ = some (.slice a' M c'))
    (first | exact boxes2 (b1.mono (by omega)) | exact boxes2 (b1.drew.mono (by omega)) | exact boxes2 (b3.mono (by omega)) | exact boxes2 (b2.mono (by omega)) | exact boxes2 (((b2.mono (by omega)).setCell (by simp) _).setCell (by simp) _))
    (first | (go_at_call 61; refine (less_c k2.drew k1.drew g2 g1 (by omega) (by omega) (by omega)).mono ?_; rintro e w3 ⟨x, rfl, ⟨zs, hz, gz, nz, vz⟩, hb3⟩; have b3 := next3 b1.drew hb3; have lz := len_le (g2) gz nz (by have := (val_bounds g1).1; omega)) | (go_at_call 57; refine (made_c q hz gz (by omega)).mono ?_; rintro e w2 ⟨y, rfl, ⟨bb, ss, zz, rfl, hr, hy⟩, hb2⟩; obtain ⟨sa, sc, rfl, hsl⟩ := hr.len; have b2 := next3 b3 hb2; obtain ⟨_, _, _, _, z1, z2, z3, z4⟩ := boxes3 b2))
  have F := LongV.box2 ⟨bb, _, zz, rfl, hr, hy⟩ z1 z2 (.bool bb) (.slice sa zz.length sc)
  have hB := below3 b2
  have hB : Below w.heap.size w ((w2.setCell ⟨w.heap.size + 1 + 1, 0, none⟩ (.bool bb)).setCell ⟨w.heap.size + 1 + 1, 1, none⟩ (.slice sa zz.length sc)) := (hB.setCell (by simp; omega) _).setCell (by simp; omega) _
  rw [vz] at F
  go_wp2
  exact bodyPost_ret (v := .agg #[.bool bb, .slice sa zz.length sc]) (by simp [results, Tryz.results33, go_sem, z1, z2]) rfl ⟨_, rfl, F, hB⟩

/-- At most 64 digits. -/
def small (z : Int) : Prop := - pw 64 < z ∧ z < pw 64
theorem small_len {xs : List Int} {b : Bool} {z : Int} (g : good xs) (n : norm xs) (h : z = sgz b (val xs)) (hz : small z) : xs.length ≤ 64 := by
  rcases Nat.lt_or_ge 64 xs.length with h' | h'
  · have h1 := norm_low g n (by omega)
    have h2 := pw_mono (show 64 ≤ xs.length - 1 by omega)
    have h3 := val_bounds g
    unfold small at hz
    cases b with
    | false => rw [sgz_f] at h; omega
    | true => rw [sgz_t] at h; omega
  · exact h'
/-- Plus. -/
theorem plus_c {w : World} {u v : Value} {x y : Int} (h1 : LongV w u x) (h2 : LongV w v y) (k1 : small x) (k2 : small y) : Calls Tryz.prog 33 #[u, v] w (Gets (fun w' r => LongV w' r (x + y)) w) := by
  obtain ⟨p, s, xs, rfl, r1, g1, n1, z1, rfl⟩ := h1
  obtain ⟨q, t, ys, rfl, r2, g2, n2, z2, rfl⟩ := h2
  have l1 := small_len g1 n1 rfl k1
  have l2 := small_len g2 n2 rfl k2
  by_cases hpq : p = q
  · subst hpq
    have e : sgz p (val xs) + sgz p (val ys) = sgz p (val xs + val ys) := by cases p <;> simp only [sgz_t, sgz_f] <;> omega
    rw [e]
    exact lplus_same r1 r2 g1 g2 (by omega) (by omega)
  · by_cases hge : val ys ≤ val xs
    · have e : sgz p (val xs) + sgz q (val ys) = sgz p (val xs - val ys) := by cases p <;> cases q <;> first | exact absurd rfl hpq | (simp only [sgz_t, sgz_f]; omega)
      rw [e]
      exact lplus_ge hpq r1 r2 g1 g2 n1 n2 (by omega) (by omega) hge
    · have e : sgz p (val xs) + sgz q (val ys) = sgz q (val ys - val xs) := by cases p <;> cases q <;> first | exact absurd rfl hpq | (simp only [sgz_t, sgz_f]; omega)
      rw [e]
      exact lplus_lt hpq r1 r2 g1 g2 n1 n2 (by omega) (by omega) (by omega)
end Go.Proofs.YtfeapgpjchjphaaGreat
namespace Go.Proofs.YtfeapgpjchjphaaGreat
open Go Go.RowKit Go.Big
variable [Av]
theorem heap2 (w : World) (o1 o2 : Obj) : ((w.alloc o1).alloc o2).heap[w.heap.size]? = some o1 ∧ ((w.alloc o1).alloc o2).heap[w.heap.size + 1]? = some o2 := by
  have n1 : ∀ (W : World) (o : Obj), (W.alloc o).heap[W.heap.size]? = some o := fun W o => (MapKept.heap_alloc W o).1
  have e1 := n1 w o1
  have e2 := n1 (w.alloc o1) o2
  have z1 : (w.alloc o1).heap.size = w.heap.size + 1 := by simp
  rw [z1] at e2
  have B2 := (Below.refl (w.heap.size + 1) (w.alloc o1)).alloc (by simp) o2
  exact ⟨(B2.block _ (by omega)).trans e1, e2⟩
/-- The box of a result behind one other block. -/
theorem res2 {w W : World} {o1 : Obj} {z1 z2 : Value} {t : TypeId} (hb : Below (w.heap.size + 1 + 1) ((w.alloc o1).alloc (.cells #[z1, z2] t)) W) :
    W.cell? ⟨w.heap.size + 1, 0, none⟩ = some z1 ∧ W.cell? ⟨w.heap.size + 1, 1, none⟩ = some z2 ∧ W.frozen? ⟨w.heap.size + 1, 0, none⟩ = false ∧ W.frozen? ⟨w.heap.size + 1, 1, none⟩ = false := by
  have k := (hb.block (w.heap.size + 1) (by omega)).trans (heap2 w o1 (.cells #[z1, z2] t)).2
  exact ⟨cellOf k, cellOf k, frozenOf k, frozenOf k⟩
theorem below2 {w W : World} {o1 o2 : Obj} (hb : Below (w.heap.size + 1 + 1) ((w.alloc o1).alloc o2) W) : Below w.heap.size w W :=
  (((Below.refl _ _).alloc (Nat.le_refl _) o1).alloc (by simp) o2).trans (hb.mono (by omega))
theorem next2 {w W W' : World} {o1 o2 : Obj} (hb : Below (w.heap.size + 1 + 1) ((w.alloc o1).alloc o2) W) (h : Below W.heap.size W W') : Below (w.heap.size + 1 + 1) ((w.alloc o1).alloc o2) W' :=
  hb.trans (h.mono (by have := hb.size; simp at this; omega))
/-- The box of a result alone. -/
theorem res1 {w W : World} {z1 z2 : Value} {t : TypeId} (hb : Below (w.heap.size + 1) (w.alloc (.cells #[z1, z2] t)) W) :
    W.cell? ⟨w.heap.size, 0, none⟩ = some z1 ∧ W.cell? ⟨w.heap.size, 1, none⟩ = some z2 ∧ W.frozen? ⟨w.heap.size, 0, none⟩ = false ∧ W.frozen? ⟨w.heap.size, 1, none⟩ = false := by
  have k := (hb.block w.heap.size (by omega)).trans (MapKept.heap_alloc w (.cells #[z1, z2] t)).1
  exact ⟨cellOf k, cellOf k, frozenOf k, frozenOf k⟩
theorem below1 {w W : World} {o1 : Obj} (hb : Below (w.heap.size + 1) (w.alloc o1) W) : Below w.heap.size w W :=
  ((Below.refl _ _).alloc (Nat.le_refl _) o1).trans (hb.mono (by omega))
theorem next1 {w W W' : World} {o1 : Obj} (hb : Below (w.heap.size + 1) (w.alloc o1) W) (h : Below W.heap.size W W') : Below (w.heap.size + 1) (w.alloc o1) W' :=
  hb.trans (h.mono (by have := hb.size; simp at this; omega))
set_option maxHeartbeats 1600000 in
set_option maxRecDepth 100000 in
theorem turn_c {w : World} {u : Value} {x : Int} (h : LongV w u x) (hs : small x) : Calls Tryz.prog 35 #[u] w (Gets (fun w' r => LongV w' r (- x)) w) := by
  obtain ⟨p, s, xs, rfl, r1, g1, n1, z1, rfl⟩ := h
  have l1 := small_len g1 n1 rfl hs
  have e : - sgz p (val xs) = sgz (!p) (val xs) := by cases p <;> simp only [Bool.not_true, Bool.not_false, sgz_t, sgz_f] <;> omega
  rw [e]
  obtain ⟨a, c, rfl, hc⟩ := r1.len
  have b0 := fun o1 o2 : Obj => Below.refl (w.heap.size + 1 + 1) ((w.alloc o1).alloc o2)
  clear e z1
  go_enter Tryz.func35, Tryz.ntmps35
  go_wp2_with fail
  refine (made_c (!p) (r1.below (below2 (b0 _ _))) g1 (by omega)).mono ?_
  rintro e w1 ⟨y, rfl, ⟨bb, ss, zz, rfl, hr, hy⟩, hb⟩
  obtain ⟨sa, sc, rfl, hsl⟩ := hr.len
  have b1 := next2 (b0 _ _) hb
  obtain ⟨q1, q2, q3, q4⟩ := res2 b1
  have F := LongV.box2 ⟨bb, _, zz, rfl, hr, hy⟩ q1 q2 (.bool bb) (.slice sa zz.length sc)
  have hB := below2 b1
  have hB : Below w.heap.size w ((w1.setCell ⟨w.heap.size + 1, 0, none⟩ (.bool bb)).setCell ⟨w.heap.size + 1, 1, none⟩ (.slice sa zz.length sc)) := (hB.setCell (by simp) _).setCell (by simp) _
  go_wp2
  exact bodyPost_ret (v := .agg #[.bool bb, .slice sa zz.length sc]) (by simp [results, Tryz.results35, go_sem, q1, q2]) rfl ⟨_, rfl, F, hB⟩
end Go.Proofs.YtfeapgpjchjphaaGreat
namespace Go.Proofs.YtfeapgpjchjphaaGreat
open Go Go.RowKit Go.Big
variable [Av]
theorem row_new2 (W : World) (hA : ∀ g, Av.A g → g < W.heap.size) (k : IntKind) (x y : Int) (t : TypeId) : RowK k (W.alloc (.cells #[.int k x, .int k y] t)) (.slice (some ⟨W.heap.size, 0, none⟩) 2 2) [x, y] :=
  .inr ⟨W.heap.size, 0, 2, rfl, by simp, by simp, fun j hj => by
    match j, hj with
    | 0, _ => rw [World.cell?_alloc_at _ _ _ _ rfl]; rfl
    | 1, _ => rw [World.cell?_alloc_at _ _ _ _ rfl]; rfl, fun ha => absurd (hA _ ha) (Nat.lt_irrefl _), fun g hg => by have := hA g hg; simp; omega⟩
theorem row_next2 (w : World) (hA : ∀ g, Av.A g → g < w.heap.size) (o : Obj) (k : IntKind) (x y : Int) (t : TypeId) : RowK k ((w.alloc o).alloc (.cells #[.int k x, .int k y] t)) (.slice (some ⟨w.heap.size + 1, 0, none⟩) 2 2) [x, y] := by
  have h := row_new2 (w.alloc o) (fun g hg => by have := hA g hg; simp; omega) k x y t
  have e : (w.alloc o).heap.size = w.heap.size + 1 := by simp
  rw [e] at h; exact h
set_option maxHeartbeats 400000 in
set_option maxRecDepth 100000 in
theorem long1_c {w : World} (hA : ∀ g, Av.A g → g < w.heap.size) (n : Int) (h0 : -9223372036854775808 ≤ n) (h1 : n ≤ 9223372036854775807) : Calls Tryz.prog 28 #[.int .i64 n] w (Gets (fun w' r => LongV w' r n) w) := by
  have b0 := fun o1 : Obj => Below.refl (w.heap.size + 1) (w.alloc o1)
  by_cases hn : n < 0
  · have e0 : IntKind.u64.wrap n = n + 18446744073709551616 := by simp [IntKind.wrap, IntKind.bits, IntKind.signed]; omega
    have e1 : IntKind.u64.wrap (0 - (n + 18446744073709551616)) = - n := by simp [IntKind.wrap, IntKind.bits, IntKind.signed]; omega
    have e1' : IntKind.u64.wrap (-(n + 18446744073709551616)) = - n := by simp [IntKind.wrap, IntKind.bits, IntKind.signed]; omega
    have hg : good [(- n) % 4294967296, (- n) / 4294967296] := good_cons.2 ⟨by omega, good_cons.2 ⟨by omega, good_nil⟩⟩
    have hv : sgz true (val [(- n) % 4294967296, (- n) / 4294967296]) = n := by rw [sgz_t]; simp only [val_cons, val_nil]; omega
    have e2 : wrap64 (-(n.tmod 4294967296)) = (- n) % 4294967296 := by
      rw [← Int.neg_tmod, Int.tmod_eq_emod_of_nonneg (by omega)]
      exact IntWalk.wrap64_in _ (by omega)
    have e3 : wrap64 (IntKind.u64.wrap (-(n.tdiv 4294967296))) = (- n) / 4294967296 := by
      rw [← Int.neg_tdiv, Int.tdiv_eq_ediv_of_nonneg (by omega), IntWalk.u64_in _ (by omega)]
      exact IntWalk.wrap64_in _ (by omega)
    go_enter Tryz.func28, Tryz.ntmps28
    go_wp2_with fail
    rw [e2, e3]
    refine (made_c true (row_next2 _ hA _ _ _ _ _) hg (by simp)).mono ?_
    rintro e w1 ⟨y, rfl, ⟨bb, ss, zz, rfl, hr, hy⟩, hb⟩
    obtain ⟨sa, sc, rfl, hsl⟩ := hr.len
    have b1 := next1 ((b0 _).alloc (by simp) _) hb
    obtain ⟨q1, q2, q3, q4⟩ := res1 b1
    have F := LongV.box2 ⟨bb, _, zz, rfl, hr, hy⟩ q1 q2 (.bool bb) (.slice sa zz.length sc)
    rw [hv] at F
    have hB := below1 b1
    have hB : Below w.heap.size w ((w1.setCell ⟨w.heap.size, 0, none⟩ (.bool bb)).setCell ⟨w.heap.size, 1, none⟩ (.slice sa zz.length sc)) := (hB.setCell (by simp) _).setCell (by simp) _
    clear e0 e1 e1' e2 e3 hv hg
    go_wp2
    exact bodyPost_ret (v := .agg #[.bool bb, .slice sa zz.length sc]) (by simp [results, Tryz.results28, go_sem, q1, q2]) rfl ⟨_, rfl, F, hB⟩
  · have hg : good [n % 4294967296, n / 4294967296] := good_cons.2 ⟨by omega, good_cons.2 ⟨by omega, good_nil⟩⟩
    have hv : sgz false (val [n % 4294967296, n / 4294967296]) = n := by rw [sgz_f]; simp only [val_cons, val_nil]; omega
    go_enter Tryz.func28, Tryz.ntmps28
    go_wp2_with fail
    refine (made_c false (row_next2 _ hA _ _ _ _ _) hg (by simp)).mono ?_
    rintro e w1 ⟨y, rfl, ⟨bb, ss, zz, rfl, hr, hy⟩, hb⟩
    obtain ⟨sa, sc, rfl, hsl⟩ := hr.len
    have b1 := next1 ((b0 _).alloc (by simp) _) hb
    obtain ⟨q1, q2, q3, q4⟩ := res1 b1
    have F := LongV.box2 ⟨bb, _, zz, rfl, hr, hy⟩ q1 q2 (.bool bb) (.slice sa zz.length sc)
    rw [hv] at F
    have hB := below1 b1
    have hB : Below w.heap.size w ((w1.setCell ⟨w.heap.size, 0, none⟩ (.bool bb)).setCell ⟨w.heap.size, 1, none⟩ (.slice sa zz.length sc)) := (hB.setCell (by simp) _).setCell (by simp) _
    clear hv hg
    go_wp2
    exact bodyPost_ret (v := .agg #[.bool bb, .slice sa zz.length sc]) (by simp [results, Tryz.results28, go_sem, q1, q2]) rfl ⟨_, rfl, F, hB⟩
omit [Av] in
theorem long1_0 {w : World} (n : Int) (h0 : -9223372036854775808 ≤ n) (h1 : n ≤ 9223372036854775807) : Calls Tryz.prog 28 #[.int .i64 n] w (Gets (fun w' r => @LongV noAv w' r n) w) :=
  @long1_c noAv w (fun _ h => h.elim) n h0 h1
end Go.Proofs.YtfeapgpjchjphaaGreat
