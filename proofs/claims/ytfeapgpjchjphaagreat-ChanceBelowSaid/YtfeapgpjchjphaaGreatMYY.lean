/-
  The reference's twice: a number of any length, doubled, and a bit.
  The reference's parts: the arithmetic of a division, a bit at a time.
  The reference's parts, for every two rows of digits.
  The reference's parts: the loops.
-/
import Derived.Test.YtfeapgpjchjphaaGreatMK
import Derived.Laws.AppendOwnNone
import Derived.Lib.Hide
import Derived.Deep.Heap
import Derived.StillTailTactics
set_option linter.all false
namespace Go.Proofs.YtfeapgpjchjphaaGreat
open Go Go.RowKit Go.Big
section
variable [Av]
structure TwI (xs : List Int) (d : Int) (L : Nat) (w : World) (out : Value) (c : Int) (k : Nat) (zs : List Int) (wr : World) : Prop where
  kL : k ≤ L
  c0 : 0 ≤ c
  c1 : c ≤ 1
  own : wr.ownsRow w.heap.size 3 1 out zs.length (zs.map (Value.int .i64))
  len : zs.length = k
  gd : good zs
  eq : 2 * val (xs.take k) + d = val zs + c * pw k
  bel : Below w.heap.size w wr
theorem tw_step {xs zs : List Int} {c c' d e : Int} {k : Nat} (hl : zs.length = k) (h : 2 * val (xs.take k) + d = val zs + c * pw k) (hd : e + c' * 4294967296 = 2 * xs.getD k 0 + c) :
    2 * val (xs.take (k + 1)) + d = val (zs ++ [e]) + c' * pw (k + 1) := by
  rw [val_take_any, val_snoc, pw_succ, hl]
  have : pw k * (e + c' * 4294967296) = pw k * (2 * xs.getD k 0 + c) := by rw [hd]
  grind
def TwRel (xs : List Int) (d : Int) (L : Nat) (w : World) (cr out i : Value) (wr : World) : Prop :=
  ∃ (k : Nat) (c : Int) (zs : List Int), cr = .int .i64 c ∧ i = .int .i64 k ∧ TwI xs d L w out c k zs wr
set_option maxHeartbeats 1600000 in
set_option maxRecDepth 100000 in
theorem twice_c {w : World} {v : Value} {xs : List Int} {d : Int} (h1 : RowK .i64 w v xs) (g1 : good xs) (d0 : 0 ≤ d) (d1 : d ≤ 1) (s1 : xs.length ≤ 1000000) :
    Calls Tryz.prog 77 #[v, .int .i64 d] w (Gets (DigV (2 * val xs + d)) w) := by
  have hav := h1.av
  obtain ⟨i0, hi, hz0, hz1, hz2⟩ := info_parts Tryz.info3
  obtain ⟨a, c, rfl, hc⟩ := h1.len
  generalize hL : xs.length = L at *
  go_enter Tryz.func77, Tryz.ntmps77
  go_wp2
  go_loopw [1, 5, 6] (TwRel xs d L w) (fun _ _ i _ => L - (intOf i).toNat)
  case atStart => exact ⟨0, d, [], rfl, rfl, Nat.zero_le _, d0, d1, World.ownsRow_nil _ _ _ _, rfl, good_nil, by simp [val, pw], Below.refl _ _⟩
  case round =>
    obtain ⟨k, r, zs, rfl, rfl, kL, c0, c1, own, len, gd, eq, bel⟩ := hrel
    have hsz := bel.size
    by_cases hk : k < L
    · obtain ⟨b, o, rfl, hb, hc1⟩ := h1.cell (j := k) (by omega)
      have hx := (bel.cell (p := ⟨b, o + k, none⟩) hb).trans hc1
      obtain ⟨x0, x1⟩ := good_getD g1 k
      have N : ∀ v' w3, w3.ownsRow w.heap.size 3 1 v' (zs.length + 1) (zs.map (Value.int .i64) ++ [.int .i64 ((2 * xs.getD k 0 + r) % 4294967296)]) → Below w.heap.size w w3 → TwRel xs d L w (.int .i64 ((2 * xs.getD k 0 + r) / 4294967296)) v' (.int .i64 ((k : Int) + 1)) w3 := fun v' w3 ho hb3 =>
        ⟨k + 1, (2 * xs.getD k 0 + r) / 4294967296, zs ++ [(2 * xs.getD k 0 + r) % 4294967296], rfl, rfl, by omega, by omega, by omega, by simpa using ho, by simp [len], good_snoc gd (by omega) (by omega), tw_step len eq (by omega), hb3⟩
      clear hc1 h1 eq
      generalize xs.getD k 0 = x at *
      go_wp2_with (at_builtin; refine wpList_append_own _ rfl _ _ 45 rfl w.heap.size 3 i0 (.int .i64 0) 1 8 Tryz.underlying45 hi hz0 hz1 hz2 rfl (by decide) _ _ _ rfl (own.alloc _) ⟨wr.heap.size, 0, none⟩ 1 1 [.int .i64 ((2 * x + r) % 4294967296)] rfl rfl (cell1 _ _ _) one1 (by unfold maxLen; omega) (by omega) (by simp; omega) ?_; intro v' w3 hown' hgrow3 hnil3)
      go_roundw
      case rel => exact N _ _ hown' (below_append bel own hgrow3)
      case measure => simp [intOf]; omega
    · obtain rfl : k = L := by omega
      have hv : val (zs ++ [r]) = 2 * val xs + d := by
        rw [List.take_of_length_le (by omega)] at eq
        rw [val_snoc, len, eq]; grind
      have gz : good (zs ++ [r]) := good_snoc gd c0 (by omega)
      clear h1 eq
      go_wp2_with (at_builtin; refine wpList_append_own _ rfl _ _ 45 rfl w.heap.size 3 i0 (.int .i64 0) 1 8 Tryz.underlying45 hi hz0 hz1 hz2 rfl (by decide) _ _ _ rfl (own.alloc _) ⟨wr.heap.size, 0, none⟩ 1 1 [.int .i64 r] rfl rfl (cell1 _ _ _) one1 (by unfold maxLen; omega) (by omega) (by simp; omega) ?_; intro v' w3 hown' hgrow3 hnil3)
      have hown2 : w3.ownsRow w.heap.size 3 1 v' (zs ++ [r]).length ((zs ++ [r]).map (Value.int .i64)) := by simpa using hown'
      have bel3 := below_append bel own hgrow3
      have hrow := RowK.of_owns hav bel3.size hown2
      clear hown' hown2
      refine (cut_c hrow (by simp; omega)).mono ?_
      rintro e w4 ⟨v4, m, rfl, hm, hr4, hz4, hn4, rfl⟩
      have hr4 := hr4 _ hrow
      have hv4 := val_cut hz4
      go_wp2
      go_ret
      exact ⟨_, rfl, ⟨_, hr4, good_take gz m, hn4, by rw [hv4, hv]⟩, bel3⟩
end
end Go.Proofs.YtfeapgpjchjphaaGreat
namespace Go.Proofs.YtfeapgpjchjphaaGreat
open Go Go.RowKit Go.Big
@[reducible] def avq (b : Nat) : Av := ⟨fun g => g = b⟩
theorem ProdI.go [Av] {w : World} {n m : Nat} {wr w3 : World} {os : List Int} (h : ProdI w n m wr os) (hb : Below wr.heap.size wr w3) : ProdI w n m w3 os := by
  refine ⟨?_, h.len, h.gd, h.zero, h.bel.trans (hb.mono h.bel.size)⟩
  obtain ⟨h0, h1⟩ := h.own
  refine ⟨h0, ?_⟩
  rcases h1 with h1 | ⟨g, cap, cur, e1, e2, e3, e4⟩
  · exact .inl h1
  · exact .inr ⟨g, cap, cur, e1, e2, (hb.block g (Array.getElem?_eq_some_iff.1 e3).1).trans e3, e4⟩
theorem own_blank (w : World) : (w.alloc (.cells #[] 3)).ownsRow w.heap.size 3 1 (.slice (some ⟨w.heap.size, 0, none⟩) 0 0) 0 [] :=
  ⟨rfl, .inr ⟨w.heap.size, 0, #[], rfl, Nat.le_refl _, (MapKept.heap_alloc w (.cells #[] 3)).1, Nat.le_refl _, Nat.zero_le _, rfl, rfl⟩⟩
theorem ints_ones (os : List Int) : ∀ u ∈ os.map (Value.int .i64), u.oneCell' = true := by
  intro u hu
  obtain ⟨x, -, rfl⟩ := List.mem_map.1 hu
  rfl
theorem row_news [Av] {k : IntKind} {w : World} {a : Addr} {n c : Nat} {xs : List Int} (h : RowK k w (.slice (some a) n c) xs) : xs.length = n ∧ n ≤ c ∧ a.block < w.heap.size ∧ ∀ j u, (xs.map (Value.int k))[j]? = some u → w.cell? (a.add j) = some u := by
  rcases h with ⟨h, _⟩ | ⟨b, o, cap, h1, h2, h3, h4, -⟩
  · injection h with h; cases h
  · injection h1 with e1 e2 e3
    injection e1 with e1
    subst e1; subst e2; subst e3
    refine ⟨rfl, h2, h3, fun j u hj => ?_⟩
    rw [List.getElem?_map] at hj
    cases e : xs[j]? with
    | none => rw [e] at hj; cases hj
    | some x =>
      rw [e] at hj
      injection hj with hj
      have hl : j < xs.length := (List.getElem?_eq_some_iff.1 e).1
      rw [← hj, Addr.add_lit, h4 j hl]
      simp [List.getD, e]
theorem row_set {k : IntKind} {b o : Nat} {w : World} {v : Value} {xs : List Int} (h : @RowK (avq b) k w v xs) (u : Value) : @RowK (avq b) k (w.setCell ⟨b, o, none⟩ u) v xs :=
  @RowK.kept (avq b) _ _ _ _ _ h (by simp) fun c hc _ => Go.Deep.blk_setCell_other w ⟨b, o, none⟩ u c hc
theorem row_forget {A : Nat → Prop} {k : IntKind} {w : World} {v : Value} {xs : List Int} (h : @RowK ⟨A⟩ k w v xs) : @RowK noAv k w v xs :=
  RowK.move h (Nat.le_refl _) (fun _ _ _ => rfl) (fun _ h => h.elim) (fun _ _ _ h => h.elim)
theorem row_avq {k : IntKind} {w wr : World} {v : Value} {xs : List Int} (h : @RowK noAv k w v xs) (hb : Below w.heap.size w wr) (hs : w.heap.size < wr.heap.size) : @RowK (avq w.heap.size) k wr v xs :=
  RowK.move h hb.size (fun b _ hb' => hb.block b hb') (fun g hg => by rw [show g = w.heap.size from hg]; exact hs) (fun b hb' _ e => by rw [show b = w.heap.size from e] at hb'; exact absurd hb' (Nat.lt_irrefl _))
theorem ProdI.lt [Av] {w wr : World} {n m : Nat} {os : List Int} (h : ProdI w n m wr os) : w.heap.size < wr.heap.size := by
  rcases h.own.2 with ⟨h1, _⟩ | ⟨g, cap, cur, h1, _, hg, _⟩
  · cases h1
  · injection h1 with h2
    injection h2 with h3
    injection h3 with h4
    subst h4
    exact (Array.getElem?_eq_some_iff.1 hg).1
theorem dig_len {zs : List Int} {n : Nat} (g : good zs) (nz : norm zs) (h : val zs < pw n) : zs.length ≤ n := by
  rcases Nat.lt_or_ge n zs.length with h1 | h1
  · have h2 := norm_low g nz (by omega)
    have h3 := pw_mono (show n ≤ zs.length - 1 by omega)
    omega
  · exact h1
theorem dig_len_le {xs ys : List Int} (gx : good xs) (nx : norm xs) (gy : good ys) (h : val xs ≤ val ys) : xs.length ≤ ys.length := by
  rcases Nat.lt_or_ge ys.length xs.length with h1 | h1
  · have := norm_len gy gx nx h1; omega
  · exact h1
theorem val_take_drop (xs : List Int) (p : Nat) : val xs = val (xs.take p) + pw (xs.take p).length * val (xs.drop p) := by
  rw [← val_append, List.take_append_drop]
theorem val_drop {xs : List Int} {p : Nat} (h : p < xs.length) : val (xs.drop p) = xs.getD p 0 + 4294967296 * val (xs.drop (p + 1)) := by
  rw [List.drop_eq_getElem_cons h, val_cons]
  simp [List.getD, h]
theorem good_drop {xs : List Int} (h : good xs) (k : Nat) : good (xs.drop k) := fun x hx => h x (List.mem_of_mem_drop hx)
theorem norm_drop {xs : List Int} (h : norm xs) (k : Nat) : norm (xs.drop k) := fun hl => by
  rw [List.length_drop] at hl
  have h1 := h (by omega)
  have : (xs.drop k).getD ((xs.drop k).length - 1) 0 = xs.getD (xs.length - 1) 0 := by
    simp only [List.getD, List.getElem?_drop, List.length_drop]
    congr 2
    omega
  rw [this]; exact h1
/-- Within the loops: N is what has been read of the number, os the digits of the quotient, v what is left. -/
structure PtI (wb : World) (n p q : Nat) (N Y v : Int) (wr : World) (os : List Int) : Prop where
  I : ProdI wb n n wr os
  low : ∀ t, t < p → os.getD t 0 = 0
  mul : ∃ e : Int, os.getD p 0 = e * 2 ^ q
  eq : ∃ Q : Int, N = Q * Y + v ∧ val os = Q * 2 ^ q * pw p
  v0 : 0 ≤ v
  v1 : v < Y
theorem pt_room {wb wr : World} {n p q : Nat} {N Y v : Int} {os : List Int} (h : PtI wb n p (q + 1) N Y v wr os) (hq : q ≤ 31) : 0 ≤ os.getD p 0 ∧ os.getD p 0 + 2 ^ q < 4294967296 ∧ (0 : Int) < 2 ^ q ∧ (2 : Int) ^ q ≤ 2147483648 := by
  obtain ⟨e, he⟩ := h.mul
  obtain ⟨h0, h1⟩ := good_getD h.I.gd p
  have hb : (0 : Int) < 2 ^ q := Int.pow_pos (by decide)
  have hB : (2 : Int) ^ (q + 1) = 2 * 2 ^ q := by rw [Int.pow_succ, Int.mul_comm]
  have hC : (2 : Int) ^ (31 - q) * 2 ^ (q + 1) = 4294967296 := by
    rw [← Int.pow_add, show 31 - q + (q + 1) = 32 by omega]; rfl
  have hle : (2 : Int) ^ q ≤ 2147483648 := by
    have h2 : (2 : Int) ^ (31 - q) * 2 ^ q = 2147483648 := by
      rw [← Int.pow_add, show 31 - q + q = 31 by omega]; rfl
    have h3 : (0 : Int) < 2 ^ (31 - q) := Int.pow_pos (by decide)
    have h4 := Int.mul_le_mul_of_nonneg_right (show (1 : Int) ≤ 2 ^ (31 - q) by omega) (Int.le_of_lt hb)
    omega
  refine ⟨h0, ?_, hb, hle⟩
  have h5 : e < 2 ^ (31 - q) := by
    apply Int.lt_of_mul_lt_mul_right (a := 2 ^ (q + 1)) _ (by omega)
    omega
  have h6 := Int.mul_le_mul_of_nonneg_right (show e + 1 ≤ 2 ^ (31 - q) by omega) (show (0 : Int) ≤ 2 ^ (q + 1) by omega)
  rw [hC, Int.add_mul, ← he, hB] at h6
  omega
theorem pt_take {wb wr wr' : World} {n p q : Nat} {N Y v b : Int} {os : List Int} (h : PtI wb n p (q + 1) N Y v wr os) (hp : p < n) (I' : ProdI wb n n wr' (os.set p (os.getD p 0 + 2 ^ q))) (b1 : b ≤ 1) (hle : Y ≤ 2 * v + b) :
    PtI wb n p q (2 * N + b) Y (2 * v + b - Y) wr' (os.set p (os.getD p 0 + 2 ^ q)) := by
  have hlen := h.I.len
  have hv := val_set (d := os.getD p 0 + 2 ^ q) (show p < os.length by omega)
  have h1 := h.v1
  refine ⟨I', fun t ht => by rw [getD_set_other (by omega)]; exact h.low t ht, ?_, ?_, by omega, by omega⟩
  · obtain ⟨e, he⟩ := h.mul
    refine ⟨2 * e + 1, ?_⟩
    have : (os.set p (os.getD p 0 + 2 ^ q)).getD p 0 = os.getD p 0 + 2 ^ q := by simp [List.getD, show p < os.length by omega]
    rw [this, he, Int.pow_succ]
    grind
  · obtain ⟨Q, e1, e2⟩ := h.eq
    refine ⟨2 * Q + 1, by rw [e1]; grind, ?_⟩
    rw [hv, e2, Int.pow_succ]
    grind
theorem pt_keep {wb wr wr' : World} {n p q : Nat} {N Y v b : Int} {os : List Int} (h : PtI wb n p (q + 1) N Y v wr os) (I' : ProdI wb n n wr' os) (b0 : 0 ≤ b) (hlt : 2 * v + b < Y) :
    PtI wb n p q (2 * N + b) Y (2 * v + b) wr' os := by
  have h0 := h.v0
  refine ⟨I', h.low, ?_, ?_, by omega, hlt⟩
  · obtain ⟨e, he⟩ := h.mul
    exact ⟨2 * e, by rw [he, Int.pow_succ]; grind⟩
  · obtain ⟨Q, e1, e2⟩ := h.eq
    exact ⟨2 * Q, by rw [e1]; grind, by rw [e2, Int.pow_succ]; grind⟩
theorem two_pow_pos (q : Nat) : (0 : Int) < 2 ^ q := Int.pow_pos (by decide)
/-- One bit more of the number. -/
theorem pt_bit {x V : Int} {q : Nat} (hq : q ≤ 31) : (x + 4294967296 * V) / 2 ^ q = 2 * ((x + 4294967296 * V) / 2 ^ (q + 1)) + x / 2 ^ q % 2 := by
  have hb := two_pow_pos q
  have e1 : (x + 4294967296 * V) / 2 ^ (q + 1) = (x + 4294967296 * V) / 2 ^ q / 2 := by
    rw [Int.pow_succ, Int.ediv_ediv_of_nonneg (Int.le_of_lt hb)]
  have e2 : (4294967296 : Int) * V = 2 ^ q * (2 ^ (31 - q) * V) * 2 := by
    have hC : (2 : Int) ^ (31 - q) * 2 ^ (q + 1) = 4294967296 := by
      rw [← Int.pow_add, show 31 - q + (q + 1) = 32 by omega]; rfl
    rw [← hC, Int.pow_succ]; grind
  have e3 : (x + 4294967296 * V) / 2 ^ q = x / 2 ^ q + 2 ^ (31 - q) * V * 2 := by
    rw [e2, Int.mul_assoc (2 ^ q), Int.add_mul_ediv_left _ _ (by omega)]
  rw [e1, e3]; omega
/-- What is left when a number's higher digits have been divided. -/
structure PtO (wb : World) (n p : Nat) (N Y v : Int) (wr : World) (os : List Int) : Prop where
  I : ProdI wb n n wr os
  low : ∀ t, t < p → os.getD t 0 = 0
  eq : ∃ Q : Int, N = Q * Y + v ∧ val os = Q * pw p
  v0 : 0 ≤ v
  v1 : v < Y
theorem pt_in {wb wr : World} {n p : Nat} {x V Y v : Int} {os : List Int} (h : PtO wb n (p + 1) V Y v wr os) (x0 : 0 ≤ x) (x1 : x < 4294967296) : PtI wb n p 32 ((x + 4294967296 * V) / 2 ^ 32) Y v wr os := by
  obtain ⟨Q, e1, e2⟩ := h.eq
  have e3 : (x + 4294967296 * V) / 2 ^ 32 = V := by rw [show (2 : Int) ^ 32 = 4294967296 by decide]; omega
  refine ⟨h.I, fun t ht => h.low t (by omega), ⟨0, by rw [h.low p (by omega)]; rfl⟩, ⟨Q, by rw [e3]; exact e1, ?_⟩, h.v0, h.v1⟩
  rw [e2, pw_succ, show (2 : Int) ^ 32 = 4294967296 by decide]; grind
theorem pt_out {wb wr : World} {n p : Nat} {N Y v : Int} {os : List Int} (h : PtI wb n p 0 (N / 2 ^ 0) Y v wr os) : PtO wb n p N Y v wr os := by
  obtain ⟨Q, e1, e2⟩ := h.eq
  rw [Int.pow_zero, Int.ediv_one] at e1
  rw [Int.pow_zero, Int.mul_one] at e2
  exact ⟨h.I, h.low, ⟨Q, e1, e2⟩, h.v0, h.v1⟩
theorem div_unique {N Y Q v : Int} (h : N = Q * Y + v) (v0 : 0 ≤ v) (v1 : v < Y) : Q = N / Y ∧ v = N % Y := by
  have hY : 0 < Y := by omega
  have e : N / Y = Q := by
    rw [h, Int.add_comm, Int.add_mul_ediv_right _ _ (by omega), Int.ediv_eq_zero_of_lt v0 v1]; omega
  refine ⟨e.symm, ?_⟩
  rw [Int.emod_def, e, h]; grind
def PtOut (wb : World) (n : Nat) (xs : List Int) (Y : Int) (rv i : Value) (wr : World) : Prop :=
  ∃ (p : Nat) (os : List Int) (v : Int), i = .int .i64 ((p : Int) - 1) ∧ p ≤ n ∧ PtO wb n p (val (xs.drop p)) Y v wr os ∧ @DigV (avq wb.heap.size) v wr rv
def PtIn (wb : World) (n p : Nat) (M Y : Int) (rv k : Value) (wr : World) : Prop :=
  ∃ (q : Nat) (os : List Int) (v : Int), k = .int .i64 ((q : Int) - 1) ∧ q ≤ 32 ∧ PtI wb n p q (M / 2 ^ q) Y v wr os ∧ @DigV (avq wb.heap.size) v wr rv
end Go.Proofs.YtfeapgpjchjphaaGreat
namespace Go.Proofs.YtfeapgpjchjphaaGreat
open Go Go.RowKit Go.Big
attribute [local instance] noAv
def PartsV (m n : Int) (w : World) (r : Value) : Prop := ∃ qv rv, r = .tuple #[qv, rv] ∧ DigV (m / n) w qv ∧ DigV (m % n) w rv
theorem dig_forget {A : Nat → Prop} {n : Int} {w : World} {v : Value} (h : @DigV ⟨A⟩ n w v) : DigV n w v := by
  obtain ⟨zs, h1, h2⟩ := h
  exact ⟨zs, row_forget h1, h2⟩
theorem dig_set {n : Int} {b o : Nat} {w : World} {v : Value} (h : @DigV (avq b) n w v) (u : Value) : @DigV (avq b) n (w.setCell ⟨b, o, none⟩ u) v := by
  obtain ⟨zs, h1, h2⟩ := h
  exact ⟨zs, row_set h1 u, h2⟩
theorem dig_nil (w : World) : DigV 0 w (.slice none 0 0) := ⟨[], RowK.nil fun _ h => h.elim, good_nil, fun h => absurd h (Nat.lt_irrefl _), rfl⟩
set_option maxHeartbeats 1600000 in
set_option maxRecDepth 100000 in
theorem parts_small {w : World} {v u : Value} {xs ys : List Int} (h1 : RowK .i64 w v xs) (h2 : RowK .i64 w u ys) (g1 : good xs) (g2 : good ys) (n1 : norm xs) (n2 : norm ys) (s2 : ys.length ≤ 1000) (hlt : xs.length < ys.length) :
    Calls Tryz.prog 56 #[v, u] w (Gets (PartsV (val xs) (val ys)) w) := by
  obtain ⟨i0, hi, hz0, hz1, hz2⟩ := info_parts Tryz.info3
  obtain ⟨a', c', rfl, hc'⟩ := h2.len
  have hv := norm_len g1 g2 n2 hlt
  have h0 := (val_bounds g1).1
  have e1 : val xs / val ys = 0 := Int.ediv_eq_zero_of_lt h0 hv
  have e2 : val xs % val ys = val xs := Int.emod_eq_of_lt h0 hv
  have hB : ∀ o, Below w.heap.size w (w.alloc o) := fun o => (Below.refl _ _).alloc (Nat.le_refl _) o
  rcases h1 with ⟨rfl, rfl, -⟩ | ⟨b, o, cap, rfl, hcap, hb, hc, -⟩
  · generalize hM : ys.length = M at *
    have hM0 : 0 < M := by simpa using hlt
    clear hlt hv
    go_enter Tryz.func56, Tryz.ntmps56
    go_wp2_with (at_builtin; refine wpList_append_own_none rfl _ _ 62 rfl w.heap.size 3 i0 1 Tryz.underlying45 hi _ 0 [] rfl (own_blank w) rfl ?_)
    go_wp2
    go_ret2
    refine ⟨_, rfl, ⟨_, _, rfl, ?_, ?_⟩, hB _⟩
    · rw [e1]; exact dig_nil _
    · rw [e2]; exact ⟨[], RowK.own0 (own_blank w), good_nil, fun h => absurd h (Nat.lt_irrefl _), rfl⟩
  · have hnews := (row_news (show RowK .i64 w (.slice (some ⟨b, o, none⟩) xs.length cap) xs from .inr ⟨b, o, cap, rfl, hcap, hb, hc, id, fun _ h => h.elim⟩)).2.2.2
    have hnews : ∀ W, Below w.heap.size w W → ∀ j u, (xs.map (Value.int .i64))[j]? = some u → W.cell? ((⟨b, o, none⟩ : Addr).add j) = some u := fun W hW j u hj => by
      have := hnews j u hj
      rw [Addr.add_lit] at this ⊢
      exact (hW.cell (p := ⟨b, o + j, none⟩) hb).trans this
    generalize hM : ys.length = M at *
    generalize hL : xs.length = L at *
    clear hv
    go_enter Tryz.func56, Tryz.ntmps56
    go_wp2_with (at_builtin; (refine wpList_append_own _ rfl _ _ 45 rfl w.heap.size 3 i0 (.int .i64 0) 1 8 Tryz.underlying45 hi hz0 hz1 hz2 rfl (by decide) _ 0 [] rfl (own_blank w) ⟨b, o, none⟩ L cap (xs.map (Value.int .i64)) rfl (by simp [hL]) (hnews _ (hB _)) (ints_ones xs) (by unfold maxLen; omega) (by omega) (by simp) ?_; intro v' w3 hown' hgrow3 hnil3))
    rw [Nat.zero_add, List.nil_append] at hown'
    have hb3 : Below w.heap.size w w3 := (hB _).grown hgrow3 (by simp) (own_base (own_blank w))
    have hrow : RowK .i64 w3 v' xs := RowK.own0 hown'
    go_wp2
    go_ret2
    refine ⟨_, rfl, ⟨_, _, rfl, ?_, ?_⟩, hb3⟩
    · rw [e1]; exact dig_nil _
    · rw [e2]; exact ⟨xs, hrow, g1, n1, rfl⟩
end Go.Proofs.YtfeapgpjchjphaaGreat
namespace Go.Proofs.YtfeapgpjchjphaaGreat
open Go Go.RowKit Go.Big
attribute [local instance] noAv
set_option maxHeartbeats 3200000 in
set_option maxRecDepth 100000 in
theorem parts_big {w : World} {v u : Value} {xs ys : List Int} (h1 : RowK .i64 w v xs) (h2 : RowK .i64 w u ys) (g1 : good xs) (g2 : good ys) (n1 : norm xs) (n2 : norm ys) (s1 : xs.length ≤ 1000) (s2 : ys.length ≤ 1000) (h0 : 0 < ys.length) (hge : ys.length ≤ xs.length) :
    Calls Tryz.prog 56 #[v, u] w (Gets (PartsV (val xs) (val ys)) w) := by
  obtain ⟨i0, hi, hz0, hz1, hz2⟩ := info_parts Tryz.info3
  obtain ⟨a', c', rfl, hc'⟩ := h2.len
  rcases h1 with ⟨-, rfl, -⟩ | ⟨b, o, cap, rfl, hcap, hb, hc, -⟩
  · exact absurd (Nat.lt_of_lt_of_le h0 hge) (Nat.lt_irrefl _)
  have h1 : RowK .i64 w (.slice (some ⟨b, o, none⟩) xs.length cap) xs := .inr ⟨b, o, cap, rfl, hcap, hb, hc, id, fun _ h => h.elim⟩
  obtain ⟨m, hm⟩ : ∃ m : Nat, m = ys.length - 1 := ⟨_, rfl⟩
  obtain ⟨n, hn⟩ : ∃ n : Nat, n = xs.length - m := ⟨_, rfl⟩
  have hmn : xs.length = n + m := by omega
  have hn0 : 0 < n := by omega
  have hM : ys.length = m + 1 := by omega
  have hn1000 : n ≤ 1000 := by omega
  have hY1 : pw m ≤ val ys := by have := norm_low g2 n2 h0; rwa [hM, Nat.add_sub_cancel] at this
  have hY2 : val ys < pw (m + 1) := by have := (val_bounds g2).2; rwa [hM] at this
  have hnews : ∀ W, Below w.heap.size w W → ∀ j u, ((xs.drop n).map (Value.int .i64))[j]? = some u → W.cell? ((⟨b, o + n, none⟩ : Addr).add j) = some u := by
    intro W hW j u hj
    rw [List.getElem?_map, List.getElem?_drop, ← List.getElem?_map] at hj
    have := (row_news h1).2.2.2 (n + j) u hj
    rw [Addr.add_lit] at this ⊢
    rw [← Nat.add_assoc] at this
    exact (hW.cell (p := ⟨b, o + n + j, none⟩) hb).trans this
  generalize hLx : xs.length = L at *
  generalize hMy : ys.length = M at *
  obtain rfl : L = n + m := hmn
  obtain rfl : M = m + 1 := hM
  clear hm hn hge h0
  go_enter Tryz.func56, Tryz.ntmps56
  go_wp2_with (at_make; refine wpList_make_full _ rfl _ _ 45 rfl w.heap.size 3 i0 (.int .i64 0) 1 Tryz.underlying45 hi hz0 hz1 _ _ _ _ n rfl rfl rfl rfl (by rw [hz2]; omega) (by unfold maxLen; omega) (Nat.le_refl _) ?_)
  intro w0 hown0 hgrow0
  rw [made_zeros] at hown0
  have I0 : ProdI w n n w0 (List.replicate n 0) := ⟨hown0, by simp, good_zeros n, fun t _ => getD_zeros n t, (Below.refl _ _).grown hgrow0 (Nat.le_refl _) (fun k h => by cases h)⟩
  clear hown0 hgrow0
  have hs0 := I0.lt
  have hb0 := I0.bel
  have hl0 : (xs.drop n).length = m := by rw [List.length_drop, hLx]; omega
  by_cases hcn : cap = n
  go_wp2_with (at_builtin; revert hcn)
  intro hcn
  have hm0 : m = 0 := by omega
  have hnil : xs.drop n = [] := List.eq_nil_of_length_eq_zero (by omega)
  refine wpList_append_own _ rfl _ _ 45 rfl w0.heap.size 3 i0 (.int .i64 0) 1 8 Tryz.underlying45 hi hz0 hz1 hz2 rfl (by decide) _ 0 [] rfl (own_blank w0) ⟨b, o, none⟩ m 0 ((xs.drop n).map (Value.int .i64)) rfl (by rw [List.length_map, hl0]; omega) (by rw [hnil]; intro j u hj; simp at hj) (ints_ones _) (by unfold maxLen; omega) (by omega) (by simp) ?_
  clear hm0 hnil
  rotate_left 1
  intro hcn
  refine wpList_append_own _ rfl _ _ 45 rfl w0.heap.size 3 i0 (.int .i64 0) 1 8 Tryz.underlying45 hi hz0 hz1 hz2 rfl (by decide) _ 0 [] rfl (own_blank w0) ⟨b, o + n, none⟩ m (cap - n) ((xs.drop n).map (Value.int .i64)) rfl (by rw [List.length_map, hl0]; omega) (hnews _ (hb0.alloc hb0.size _)) (ints_ones _) (by unfold maxLen; omega) (by omega) (by simp) ?_
  rotate_left 1
  all_goals
    intro v' w3 hown' hgrow3 hnil3
    rw [Nat.zero_add, List.nil_append] at hown'
    have hb3 : Below w0.heap.size w0 w3 := ((Below.refl w0.heap.size w0).alloc (Nat.le_refl _) _).grown hgrow3 (by simp) (own_base (own_blank w0))
    have I3 := I0.go hb3
    have hrow : @RowK (avq w.heap.size) .i64 w3 v' (xs.drop n) := @RowK.of_owns (avq w.heap.size) _ _ _ _ _ _ _ (fun g hg => by rw [show g = w.heap.size from hg]; exact hs0) hb3.size (by rw [← hl0] at hown'; exact hown')
    have hdig : @DigV (avq w.heap.size) (val (xs.drop n)) w3 v' := ⟨_, hrow, good_drop g1 n, norm_drop n1 n, rfl⟩
    have hlt : val (xs.drop n) < val ys := by
      have := (val_bounds (good_drop g1 n)).2
      rw [hl0] at this; omega
    have hge0 := (val_bounds (good_drop g1 n)).1
    have hb4 : Below w.heap.size w w3 := I3.bel
    clear hown' hgrow3 hnil3 hrow hnews hb3 I0 hs0 hb0 hcn
    go_wp2
    go_loopw [8, 9] (PtOut w n xs (val ys)) (fun _ i _ => (intOf i + 1).toNat)
    case atStart =>
      exact ⟨n, List.replicate n 0, _, rfl, Nat.le_refl _, ⟨I3, fun t _ => getD_zeros n t, ⟨0, by rw [Int.zero_mul, Int.zero_add], by rw [val_zeros, Int.zero_mul]⟩, hge0, hlt⟩, hdig⟩
    case round =>
      clear hdig hge0 hlt I3 hb4
      obtain ⟨p, os, r, rfl, hp, O, hdig⟩ := hrel
      by_cases hp0 : 0 < p
      · obtain ⟨p, rfl⟩ : ∃ q, p = q + 1 := ⟨p - 1, by omega⟩
        have e1 : ((p + 1 : Nat) : Int) - 1 = (p : Int) := by omega
        rw [e1]
        clear e1
        have hpx : p < xs.length := by omega
        obtain ⟨x0, x1⟩ := good_getD g1 p
        have hM := val_drop hpx
        go_wp2
        go_loopw [8, 10] (PtIn w n p (val (xs.drop p)) (val ys)) (fun _ i _ => (intOf i + 1).toNat)
        case atStart =>
          exact ⟨32, os, r, rfl, Nat.le_refl _, by rw [hM]; exact pt_in O x0 x1, hdig⟩
        case round =>
          clear O hdig
          obtain ⟨q, os, r, rfl, hq, F, hdig⟩ := hrel
          by_cases hq0 : 0 < q
          · obtain ⟨q, rfl⟩ : ∃ r, q = r + 1 := ⟨q - 1, by omega⟩
            have e1 : ((q + 1 : Nat) : Int) - 1 = (q : Int) := by omega
            rw [e1]
            clear e1
            have I := F.I
            obtain ⟨d0, d1, b0', b1⟩ := pt_room F (by omega)
            have hbit := pt_bit (x := xs.getD p 0) (V := val (xs.drop (p + 1))) (q := q) (by omega)
            rw [← hM] at hbit
            have cx : wr.cell? ⟨b, o + p, none⟩ = some (.int .i64 (xs.getD p 0)) := (I.bel.cell (p := ⟨b, o + p, none⟩) hb).trans (hc p (by omega))
            obtain ⟨rs, hr, gr, nr, vr⟩ := hdig
            obtain ⟨ar, cr, rfl, hcr⟩ := @RowK.len (avq w.heap.size) _ _ _ _ hr
            have hM' := Lib.hid hM
            clear hM
            generalize xs.getD p 0 = x at *
            have q1 : (q : Int) ≤ 31 := by omega
            go_wp2_with fail
            have hxq : 0 ≤ x / 2 ^ q := Int.ediv_nonneg x0 (Int.le_of_lt (two_pow_pos q))
            rw [Int.tmod_eq_emod_of_nonneg hxq]
            obtain ⟨bt, hbt⟩ : ∃ bt, x / 2 ^ q % 2 = bt := ⟨_, rfl⟩
            have t0 : 0 ≤ bt := by omega
            have t1 : bt ≤ 1 := by omega
            rw [hbt] at hbit ⊢
            clear hbt hxq
            have v0' := F.v0
            have v1' := F.v1
            have lr : rs.length ≤ m + 1 := by
              have := dig_len_le gr nr g2 (by rw [vr]; omega)
              rwa [hMy] at this
            refine (@twice_c (avq w.heap.size) _ _ _ _ hr gr t0 t1 (by omega)).mono ?_
            rintro e w4 ⟨v4, rfl, ⟨zs, hr4, g4, n4, vz⟩, hb4⟩
            rw [vr] at vz
            have I4 := I.go hb4
            obtain ⟨a4, c4, rfl, hc4⟩ := @RowK.len (avq w.heap.size) _ _ _ _ hr4
            have hy4 := row_avq h2 I4.bel I4.lt
            have l4 : zs.length ≤ m + 2 := by
              apply dig_len g4 n4
              have := pw_pos (m + 1)
              rw [vz, pw_succ]; omega
            clear hr hb4
            go_wp2_with fail
            refine (@order_c (avq w.heap.size) _ _ _ _ _ hr4 hy4 g4 g2 n4 n2 (by omega) (by omega)).mono ?_
            rintro e w5 ⟨x5, rfl, ⟨ro, rfl, ho1, ho2⟩, hb5⟩
            have I5 := I4.go hb5
            have hr5 := @RowK.below (avq w.heap.size) _ _ _ _ _ hr4 hb5
            have hy5 := row_avq h2 I5.bel I5.lt
            clear hr4 hy4 hb5 I4
            by_cases hle : val ys ≤ val zs
            · have hro : 0 ≤ ro := by omega
              have hlen : m + 1 ≤ zs.length := by
                have := dig_len_le g2 n2 g4 hle
                rwa [hMy] at this
              clear ho1 ho2
              go_wp2_with fail
              refine (@less_c (avq w.heap.size) _ _ _ _ _ hr5 hy5 g4 g2 (by rw [hMy]; exact hlen) hle (by omega)).mono ?_
              rintro e w6 ⟨v6, rfl, hd6, hb6⟩
              rw [vz] at hd6 hle
              have I6 := I5.go hb6
              clear hr5 hy5 hb6 I5
              have hcell := I6.cell (j := p) (by omega)
              have hfz := I6.fz p
              have I7 : ProdI w n n (w6.drew.setCell ⟨w.heap.size, p, none⟩ (.int .i64 (os.getD p 0 + 2 ^ q))) (os.set p (os.getD p 0 + 2 ^ q)) := ProdI.set (m := n) (m' := n) (j := p) (d := os.getD p 0 + 2 ^ q) ((I6.drewN 1 : ProdI w n n (w6.drewN 1) os)) (by omega) (Nat.le_refl _) (by omega) d1
              have P7 := pt_take F (by omega) I7 t1 hle
              rw [← hbit] at P7
              have hd7 : @DigV (avq w.heap.size) (2 * r + bt - val ys) (w6.drew.setCell ⟨w.heap.size, p, none⟩ (.int .i64 (os.getD p 0 + 2 ^ q))) v6 := dig_set (w := w6.drew) hd6 _
              have hfin : PtIn w n p (val (xs.drop p)) (val ys) v6 (.int .i64 ((q : Int) - 1)) (w6.drew.setCell ⟨w.heap.size, p, none⟩ (.int .i64 (os.getD p 0 + 2 ^ q))) := ⟨q, _, _, rfl, by omega, P7, hd7⟩
              clear P7 hd7 I7 I6 F I hd6 hle hbit vz v0' v1' vr
              generalize os.getD p 0 = d at *
              have q0 : (0 : Int) ≤ (q : Int) := by omega
              have p0 : (0 : Int) ≤ (p : Int) := by omega
              have p1 : (p : Int) < (n : Int) := by omega
              have p2 : p < n := by omega
              have u1 : IntKind.i64.wrap ((2 : Int) ^ q) = (2 : Int) ^ q := by rw [IntKind.wrap_i64]; omega
              have u2 : IntKind.i64.wrap (d + (2 : Int) ^ q) = d + (2 : Int) ^ q := by rw [IntKind.wrap_i64]; omega
              have u3 : IntKind.i64.wrap (p : Int) = p := by rw [IntKind.wrap_i64]; omega
              have hcell' : w6.drew.cell? ⟨w.heap.size, p, none⟩ = some (.int .i64 d) := hcell
              have hfz' : w6.drew.frozen? ⟨w.heap.size, p, none⟩ = false := hfz
              go_wp2
              go_still_tail 10, (by kernel_rfl)
              change wpList _ _ _ _ _ w6.drew
              generalize w6.drew = w7 at *
              go_wp2
              go_roundw
              case rel => exact hfin
              case measure => simp [intOf]
            · have hro : ro < 0 := by omega
              rw [vz] at hle
              have P7 := pt_keep F I5 t0 (by omega)
              rw [← hbit] at P7
              have hfin : PtIn w n p (val (xs.drop p)) (val ys) (.slice a4 zs.length c4) (.int .i64 ((q : Int) - 1)) w5 := ⟨q, _, _, rfl, by omega, P7, ⟨zs, hr5, g4, n4, vz⟩⟩
              clear P7 I5 F I hr5 hy5 hle hbit vz v0' v1' vr ho1 ho2 d0 d1 b0' b1
              go_wp2
              go_roundw
              case rel => exact hfin
              case measure => simp [intOf]
          · obtain rfl : q = 0 := by omega
            have hout : PtOut w n xs (val ys) _ (.int .i64 ((p : Int) - 1)) wr := ⟨p, os, _, rfl, by omega, pt_out F, hdig⟩
            have e1 : ((0 : Nat) : Int) - 1 = -1 := by omega
            rw [e1]
            clear e1 F hdig
            go_wp2
            go_roundw
            case rel => exact hout
            case measure => simp [intOf]
      · obtain rfl : p = 0 := by omega
        have e1 : ((0 : Nat) : Int) - 1 = -1 := by omega
        rw [e1]
        clear e1
        have I := O.I
        have hrow : RowK .i64 wr (.slice (some ⟨w.heap.size, 0, none⟩) n n) os := RowK.own0 I.own
        have hg := I.gd
        have hlen := I.len
        have bel := I.bel
        obtain ⟨Q, q1, q2⟩ := O.eq
        rw [List.drop_zero] at q1
        rw [show pw 0 = 1 from rfl, Int.mul_one] at q2
        obtain ⟨z1, z2⟩ := div_unique q1 O.v0 O.v1
        have hdig := dig_forget hdig
        clear I O q1
        go_wp2_with fail
        refine (cut_c hrow (by omega)).mono ?_
        rintro e w4 ⟨v4, k, rfl, hk, hr4, hz4, hn4, rfl⟩
        have hr4 := hr4 _ hrow
        have hv4 := val_cut hz4
        have hres : PartsV (val xs) (val ys) w4 (.tuple #[v4, _]) := ⟨_, _, rfl, ⟨_, hr4, good_take hg k, hn4, by rw [hv4, q2, z1]⟩, by rw [← z2]; exact hdig⟩
        clear hrow hr4 hz4 hn4 hdig z1 z2 hv4 hk q2
        go_wp2
        go_ret2
        exact ⟨_, rfl, hres, bel⟩
end Go.Proofs.YtfeapgpjchjphaaGreat
