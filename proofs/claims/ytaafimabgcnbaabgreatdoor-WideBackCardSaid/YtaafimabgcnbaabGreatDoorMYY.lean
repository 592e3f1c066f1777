/-
  The reference's twice: a number of any length, doubled, and a bit.
  The reference's parts: the arithmetic of a division, a bit at a time.
  The reference's parts, for every two rows of digits.
  The reference's parts: the loops.
-/
import Derived.Test.YtaafimabgcnbaabGreatDoorMK
import Derived.Laws.AppendOwnNone
import Derived.Lib.Hide
import Derived.Deep.Heap
import Derived.StillTailTactics
set_option linter.all false
namespace Go.Proofs.YtaafimabgcnbaabGreatDoor
open Go Go.RowKit Go.Big
section
variable [Av]
structure TwI (xs : List Int) (d : Int) (L : Nat) (w : World) (out : Value) (c : Int) (k : Nat) (zs : List Int) (wr : World) : Prop where
  kL : k ≤ L
  c0 : 0 ≤ c
  c1 : c ≤ 1
  own : wr.ownsRow w.heap.size 3 1 out zs.length (zs.map (Value.int .i64))
  len : zs.length = k
  gd : good zs
  eq : 2 * val (xs.take k) + d = val zs + c * pw k
  bel : Below w.heap.size w wr
theorem tw_step {xs zs : List Int} {c c' d e : Int} {k : Nat} (hl : zs.length = k) (h : 2 * val (xs.take k) + d = val zs + c * pw k) (hd : e + c' * 4294967296 = 2 * xs.getD k 0 + c) :
    2 * val (xs.take (k + 1)) + d = val (zs ++ [e]) + c' * pw (k + 1) := by
  rw [val_take_any, val_snoc, pw_succ, hl]
  have : pw k * (e + c' * 4294967296) = pw k * (2 * xs.getD k 0 + c) := by rw [hd]
  grind
def TwRel (xs : List Int) (d : Int) (L : Nat) (w : World) (cr out i : Value) (wr : World) : Prop :=
  ∃ (k : Nat) (c : Int) (zs : List Int), cr = .int .i64 c ∧ i = .int .i64 k ∧ TwI xs d L w out c k zs wr
end
end Go.Proofs.YtaafimabgcnbaabGreatDoor
namespace Go.Proofs.YtaafimabgcnbaabGreatDoor
open Go Go.RowKit Go.Big
@[reducible] def avq (b : Nat) : Av := ⟨fun g => g = b⟩
theorem ProdI.go [Av] {w : World} {n m : Nat} {wr w3 : World} {os : List Int} (h : ProdI w n m wr os) (hb : Below wr.heap.size wr w3) : ProdI w n m w3 os := by
  refine ⟨?_, h.len, h.gd, h.zero, h.bel.trans (hb.mono h.bel.size)⟩
  obtain ⟨h0, h1⟩ := h.own
  refine ⟨h0, ?_⟩
  rcases h1 with h1 | ⟨g, cap, cur, e1, e2, e3, e4⟩
  · exact .inl h1
  · exact .inr ⟨g, cap, cur, e1, e2, (hb.block g (Array.getElem?_eq_some_iff.1 e3).1).trans e3, e4⟩
theorem own_blank (w : World) : (w.alloc (.cells #[] 3)).ownsRow w.heap.size 3 1 (.slice (some ⟨w.heap.size, 0, none⟩) 0 0) 0 [] :=
  ⟨rfl, .inr ⟨w.heap.size, 0, #[], rfl, Nat.le_refl _, (MapKept.heap_alloc w (.cells #[] 3)).1, Nat.le_refl _, Nat.zero_le _, rfl, rfl⟩⟩
theorem ints_ones (os : List Int) : ∀ u ∈ os.map (Value.int .i64), u.oneCell' = true := by
  intro u hu
  obtain ⟨x, -, rfl⟩ := List.mem_map.1 hu
  rfl
theorem row_news [Av] {k : IntKind} {w : World} {a : Addr} {n c : Nat} {xs : List Int} (h : RowK k w (.slice (some a) n c) xs) : xs.length = n ∧ n ≤ c ∧ a.block < w.heap.size ∧ ∀ j u, (xs.map (Value.int k))[j]? = some u → w.cell? (a.add j) = some u := by
  rcases h with ⟨h, _⟩ | ⟨b, o, cap, h1, h2, h3, h4, -⟩
  · injection h with h; cases h
  · injection h1 with e1 e2 e3
    injection e1 with e1
    subst e1; subst e2; subst e3
    refine ⟨rfl, h2, h3, fun j u hj => ?_⟩
    rw [List.getElem?_map] at hj
    cases e : xs[j]? with
    | none => rw [e] at hj; cases hj
    | some x =>
      rw [e] at hj
      injection hj with hj
      have hl : j < xs.length := (List.getElem?_eq_some_iff.1 e).1
      rw [← hj, Addr.add_lit, h4 j hl]
      simp [List.getD, e]
theorem row_set {k : IntKind} {b o : Nat} {w : World} {v : Value} {xs : List Int} (h : @RowK (avq b) k w v xs) (u : Value) : @RowK (avq b) k (w.setCell ⟨b, o, none⟩ u) v xs :=
  @RowK.kept (avq b) _ _ _ _ _ h (by simp) fun c hc _ => Go.Deep.blk_setCell_other w ⟨b, o, none⟩ u c hc
theorem row_forget {A : Nat → Prop} {k : IntKind} {w : World} {v : Value} {xs : List Int} (h : @RowK ⟨A⟩ k w v xs) : @RowK noAv k w v xs :=
  RowK.move h (Nat.le_refl _) (fun _ _ _ => rfl) (fun _ h => h.elim) (fun _ _ _ h => h.elim)
theorem row_avq {k : IntKind} {w wr : World} {v : Value} {xs : List Int} (h : @RowK noAv k w v xs) (hb : Below w.heap.size w wr) (hs : w.heap.size < wr.heap.size) : @RowK (avq w.heap.size) k wr v xs :=
  RowK.move h hb.size (fun b _ hb' => hb.block b hb') (fun g hg => by rw [show g = w.heap.size from hg]; exact hs) (fun b hb' _ e => by rw [show b = w.heap.size from e] at hb'; exact absurd hb' (Nat.lt_irrefl _))
theorem ProdI.lt [Av] {w wr : World} {n m : Nat} {os : List Int} (h : ProdI w n m wr os) : w.heap.size < wr.heap.size := by
  rcases h.own.2 with ⟨h1, _⟩ | ⟨g, cap, cur, h1, _, hg, _⟩
  · cases h1
  · injection h1 with h2
    injection h2 with h3
    injection h3 with h4
    subst h4
    exact (Array.getElem?_eq_some_iff.1 hg).1
theorem dig_len {zs : List Int} {n : Nat} (g : good zs) (nz : norm zs) (h : val zs < pw n) : zs.length ≤ n := by
  rcases Nat.lt_or_ge n zs.length with h1 | h1
  · have h2 := norm_low g nz (by omega)
    have h3 := pw_mono (show n ≤ zs.length - 1 by omega)
    omega
  · exact h1
theorem dig_len_le {xs ys : List Int} (gx : good xs) (nx : norm xs) (gy : good ys) (h : val xs ≤ val ys) : xs.length ≤ ys.length := by
  rcases Nat.lt_or_ge ys.length xs.length with h1 | h1
  · have := norm_len gy gx nx h1; omega
  · exact h1
theorem val_take_drop (xs : List Int) (p : Nat) : val xs = val (xs.take p) + pw (xs.take p).length * val (xs.drop p) := by
  rw [← val_append, List.take_append_drop]
theorem val_drop {xs : List Int} {p : Nat} (h : p < xs.length) : val (xs.drop p) = xs.getD p 0 + 4294967296 * val (xs.drop (p + 1)) := by
  rw [List.drop_eq_getElem_cons h, val_cons]
  simp [List.getD, h]
theorem good_drop {xs : List Int} (h : good xs) (k : Nat) : good (xs.drop k) := fun x hx => h x (List.mem_of_mem_drop hx)
theorem norm_drop {xs : List Int} (h : norm xs) (k : Nat) : norm (xs.drop k) := fun hl => by
  rw [List.length_drop] at hl
  have h1 := h (by omega)
  have : (xs.drop k).getD ((xs.drop k).length - 1) 0 = xs.getD (xs.length - 1) 0 := by
    simp only [List.getD, List.getElem?_drop, List.length_drop]
    congr 2
    omega
  rw [this]; exact h1
/-- Within the loops: N is what has been read of the number, os the digits of the quotient, v what is left. -/
structure PtI (wb : World) (n p q : Nat) (N Y v : Int) (wr : World) (os : List Int) : Prop where
  I : ProdI wb n n wr os
  low : ∀ t, t < p → os.getD t 0 = 0
  mul : ∃ e : Int, os.getD p 0 = e * 2 ^ q
  eq : ∃ Q : Int, N = Q * Y + v ∧ val os = Q * 2 ^ q * pw p
  v0 : 0 ≤ v
  v1 : v < Y
theorem pt_room {wb wr : World} {n p q : Nat} {N Y v : Int} {os : List Int} (h : PtI wb n p (q + 1) N Y v wr os) (hq : q ≤ 31) : 0 ≤ os.getD p 0 ∧ os.getD p 0 + 2 ^ q < 4294967296 ∧ (0 : Int) < 2 ^ q ∧ (2 : Int) ^ q ≤ 2147483648 := by
  obtain ⟨e, he⟩ := h.mul
  obtain ⟨h0, h1⟩ := good_getD h.I.gd p
  have hb : (0 : Int) < 2 ^ q := Int.pow_pos (by decide)
  have hB : (2 : Int) ^ (q + 1) = 2 * 2 ^ q := by rw [Int.pow_succ, Int.mul_comm]
  have hC : (2 : Int) ^ (31 - q) * 2 ^ (q + 1) = 4294967296 := by
    rw [← Int.pow_add, show 31 - q + (q + 1) = 32 by omega]; rfl
  have hle : (2 : Int) ^ q ≤ 2147483648 := by
    have h2 : (2 : Int) ^ (31 - q) * 2 ^ q = 2147483648 := by
      rw [← Int.pow_add, show 31 - q + q = 31 by omega]; rfl
    have h3 : (0 : Int) < 2 ^ (31 - q) := Int.pow_pos (by decide)
    have h4 := Int.mul_le_mul_of_nonneg_right (show (1 : Int) ≤ 2 ^ (31 - q) by omega) (Int.le_of_lt hb)
    omega
  refine ⟨h0, ?_, hb, hle⟩
  have h5 : e < 2 ^ (31 - q) := by
    apply Int.lt_of_mul_lt_mul_right (a := 2 ^ (q + 1)) _ (by omega)
    omega
  have h6 := Int.mul_le_mul_of_nonneg_right (show e + 1 ≤ 2 ^ (31 - q) by omega) (show (0 : Int) ≤ 2 ^ (q + 1) by omega)
  rw [hC, Int.add_mul, ← he, hB] at h6
  omega
theorem pt_take {wb wr wr' : World} {n p q : Nat} {N Y v b : Int} {os : List Int} (h : PtI wb n p (q + 1) N Y v wr os) (hp : p < n) (I' : ProdI wb n n wr' (os.set p (os.getD p 0 + 2 ^ q))) (b1 : b ≤ 1) (hle : Y ≤ 2 * v + b) :
    PtI wb n p q (2 * N + b) Y (2 * v + b - Y) wr' (os.set p (os.getD p 0 + 2 ^ q)) := by
  have hlen := h.I.len
  have hv := val_set (d := os.getD p 0 + 2 ^ q) (show p < os.length by omega)
  have h1 := h.v1
  refine ⟨I', fun t ht => by rw [getD_set_other (by omega)]; exact h.low t ht, ?_, ?_, by omega, by omega⟩
  · obtain ⟨e, he⟩ := h.mul
    refine ⟨2 * e + 1, ?_⟩
    have : (os.set p (os.getD p 0 + 2 ^ q)).getD p 0 = os.getD p 0 + 2 ^ q := by simp [List.getD, show p < os.length by omega]
    rw [this, he, Int.pow_succ]
    grind
  · obtain ⟨Q, e1, e2⟩ := h.eq
    refine ⟨2 * Q + 1, by rw [e1]; grind, ?_⟩
    rw [hv, e2, Int.pow_succ]
    grind
theorem pt_keep {wb wr wr' : World} {n p q : Nat} {N Y v b : Int} {os : List Int} (h : PtI wb n p (q + 1) N Y v wr os) (I' : ProdI wb n n wr' os) (b0 : 0 ≤ b) (hlt : 2 * v + b < Y) :
    PtI wb n p q (2 * N + b) Y (2 * v + b) wr' os := by
  have h0 := h.v0
  refine ⟨I', h.low, ?_, ?_, by omega, hlt⟩
  · obtain ⟨e, he⟩ := h.mul
    exact ⟨2 * e, by rw [he, Int.pow_succ]; grind⟩
  · obtain ⟨Q, e1, e2⟩ := h.eq
    exact ⟨2 * Q, by rw [e1]; grind, by rw [e2, Int.pow_succ]; grind⟩
theorem two_pow_pos (q : Nat) : (0 : Int) < 2 ^ q := Int.pow_pos (by decide)
/-- One bit more of the number. -/
theorem pt_bit {x V : Int} {q : Nat} (hq : q ≤ 31) : (x + 4294967296 * V) / 2 ^ q = 2 * ((x + 4294967296 * V) / 2 ^ (q + 1)) + x / 2 ^ q % 2 := by
  have hb := two_pow_pos q
  have e1 : (x + 4294967296 * V) / 2 ^ (q + 1) = (x + 4294967296 * V) / 2 ^ q / 2 := by
    rw [Int.pow_succ, Int.ediv_ediv_of_nonneg (Int.le_of_lt hb)]
  have e2 : (4294967296 : Int) * V = 2 ^ q * (2 ^ (31 - q) * V) * 2 := by
    have hC : (2 : Int) ^ (31 - q) * 2 ^ (q + 1) = 4294967296 := by
      rw [← Int.pow_add, show 31 - q + (q + 1) = 32 by omega]; rfl
    rw [← hC, Int.pow_succ]; grind
  have e3 : (x + 4294967296 * V) / 2 ^ q = x / 2 ^ q + 2 ^ (31 - q) * V * 2 := by
    rw [e2, Int.mul_assoc (2 ^ q), Int.add_mul_ediv_left _ _ (by omega)]
  rw [e1, e3]; omega
/-- What is left when a number's higher digits have been divided. -/
structure PtO (wb : World) (n p : Nat) (N Y v : Int) (wr : World) (os : List Int) : Prop where
  I : ProdI wb n n wr os
  low : ∀ t, t < p → os.getD t 0 = 0
  eq : ∃ Q : Int, N = Q * Y + v ∧ val os = Q * pw p
  v0 : 0 ≤ v
  v1 : v < Y
theorem pt_in {wb wr : World} {n p : Nat} {x V Y v : Int} {os : List Int} (h : PtO wb n (p + 1) V Y v wr os) (x0 : 0 ≤ x) (x1 : x < 4294967296) : PtI wb n p 32 ((x + 4294967296 * V) / 2 ^ 32) Y v wr os := by
  obtain ⟨Q, e1, e2⟩ := h.eq
  have e3 : (x + 4294967296 * V) / 2 ^ 32 = V := by rw [show (2 : Int) ^ 32 = 4294967296 by decide]; omega
  refine ⟨h.I, fun t ht => h.low t (by omega), ⟨0, by rw [h.low p (by omega)]; rfl⟩, ⟨Q, by rw [e3]; exact e1, ?_⟩, h.v0, h.v1⟩
  rw [e2, pw_succ, show (2 : Int) ^ 32 = 4294967296 by decide]; grind
theorem pt_out {wb wr : World} {n p : Nat} {N Y v : Int} {os : List Int} (h : PtI wb n p 0 (N / 2 ^ 0) Y v wr os) : PtO wb n p N Y v wr os := by
  obtain ⟨Q, e1, e2⟩ := h.eq
  rw [Int.pow_zero, Int.ediv_one] at e1
  rw [Int.pow_zero, Int.mul_one] at e2
  exact ⟨h.I, h.low, ⟨Q, e1, e2⟩, h.v0, h.v1⟩
theorem div_unique {N Y Q v : Int} (h : N = Q * Y + v) (v0 : 0 ≤ v) (v1 : v < Y) : Q = N / Y ∧ v = N % Y := by
  have hY : 0 < Y := by omega
  have e : N / Y = Q := by
    rw [h, Int.add_comm, Int.add_mul_ediv_right _ _ (by omega), Int.ediv_eq_zero_of_lt v0 v1]; omega
  refine ⟨e.symm, ?_⟩
  rw [Int.emod_def, e, h]; grind
def PtOut (wb : World) (n : Nat) (xs : List Int) (Y : Int) (rv i : Value) (wr : World) : Prop :=
  ∃ (p : Nat) (os : List Int) (v : Int), i = .int .i64 ((p : Int) - 1) ∧ p ≤ n ∧ PtO wb n p (val (xs.drop p)) Y v wr os ∧ @DigV (avq wb.heap.size) v wr rv
def PtIn (wb : World) (n p : Nat) (M Y : Int) (rv k : Value) (wr : World) : Prop :=
  ∃ (q : Nat) (os : List Int) (v : Int), k = .int .i64 ((q : Int) - 1) ∧ q ≤ 32 ∧ PtI wb n p q (M / 2 ^ q) Y v wr os ∧ @DigV (avq wb.heap.size) v wr rv
end Go.Proofs.YtaafimabgcnbaabGreatDoor
namespace Go.Proofs.YtaafimabgcnbaabGreatDoor
open Go Go.RowKit Go.Big
attribute [local instance] noAv
def PartsV (m n : Int) (w : World) (r : Value) : Prop := ∃ qv rv, r = .tuple #[qv, rv] ∧ DigV (m / n) w qv ∧ DigV (m % n) w rv
theorem dig_forget {A : Nat → Prop} {n : Int} {w : World} {v : Value} (h : @DigV ⟨A⟩ n w v) : DigV n w v := by
  obtain ⟨zs, h1, h2⟩ := h
  exact ⟨zs, row_forget h1, h2⟩
theorem dig_set {n : Int} {b o : Nat} {w : World} {v : Value} (h : @DigV (avq b) n w v) (u : Value) : @DigV (avq b) n (w.setCell ⟨b, o, none⟩ u) v := by
  obtain ⟨zs, h1, h2⟩ := h
  exact ⟨zs, row_set h1 u, h2⟩
theorem dig_nil (w : World) : DigV 0 w (.slice none 0 0) := ⟨[], RowK.nil fun _ h => h.elim, good_nil, fun h => absurd h (Nat.lt_irrefl _), rfl⟩
end Go.Proofs.YtaafimabgcnbaabGreatDoor
namespace Go.Proofs.YtaafimabgcnbaabGreatDoor
open Go Go.RowKit Go.Big
attribute [local instance] noAv
end Go.Proofs.YtaafimabgcnbaabGreatDoor
