/-
  The reference's Parts: quotient and rest of two numbers of any length.
-/
import Derived.Test.YtfeapgpjchjphaaGreatMYY
import Derived.Test.YtfeapgpjchjphaaGreatML
import Derived.Test.YtfeapgpjchjphaaGreatMK
import Derived.Deep.CutRange
set_option linter.all false
namespace Go.Proofs.YtfeapgpjchjphaaGreat
open Go Go.RowKit Go.Big
attribute [local instance] noAv
theorem heap4 (w : World) (o1 o2 o3 o4 : Obj) : ((((w.alloc o1).alloc o2).alloc o3).alloc o4).heap[w.heap.size]? = some o1 ∧ ((((w.alloc o1).alloc o2).alloc o3).alloc o4).heap[w.heap.size + 1]? = some o2 ∧ ((((w.alloc o1).alloc o2).alloc o3).alloc o4).heap[w.heap.size + 1 + 1]? = some o3 ∧ ((((w.alloc o1).alloc o2).alloc o3).alloc o4).heap[w.heap.size + 1 + 1 + 1]? = some o4 := by
  obtain ⟨h1, h2⟩ := heap2 w o1 o2
  obtain ⟨h3, h4⟩ := heap2 ((w.alloc o1).alloc o2) o3 o4
  have e : ((w.alloc o1).alloc o2).heap.size = w.heap.size + 1 + 1 := by simp
  have B := ((Below.refl (w.heap.size + 1 + 1) ((w.alloc o1).alloc o2)).alloc (by simp) o3).alloc (by simp) o4
  rw [e] at h3 h4
  exact ⟨(B.block _ (by omega)).trans h1, (B.block _ (by omega)).trans h2, h3, h4⟩
theorem next0 {w0 W W' : World} (h : Below w0.heap.size w0 W) (hb : Below W.heap.size W W') : Below w0.heap.size w0 W' := h.trans (hb.mono h.size)
theorem next0a {w0 W W' : World} {o : Obj} (h : Below w0.heap.size w0 W) (hb : Below (W.alloc o).heap.size (W.alloc o) W') : Below w0.heap.size w0 W' :=
  (h.alloc h.size o).trans (hb.mono (by have := h.size; simp; omega))
theorem next0d {w0 W' : World} {o : Obj} (hb : Below ((w0.alloc o).drew).heap.size ((w0.alloc o).drew) W') : Below w0.heap.size w0 W' :=
  ((Below.refl _ w0).alloc (Nat.le_refl _) o).drew.trans (hb.mono (by show w0.heap.size ≤ (w0.alloc o).heap.size; simp))
theorem zeroD {w0 W' : World} {o : Obj} (h : Below ((w0.alloc o).drew).heap.size ((w0.alloc o).drew) W') : W'.heap[w0.heap.size]? = some o :=
  (h.block w0.heap.size (by show w0.heap.size < (w0.alloc o).heap.size; simp)).trans (MapKept.heap_alloc w0 o).1
theorem parts_c {w : World} {v u : Value} {xs ys : List Int} (h1 : RowK .i64 w v xs) (h2 : RowK .i64 w u ys) (g1 : good xs) (g2 : good ys) (n1 : norm xs) (n2 : norm ys) (s1 : xs.length ≤ 1000) (s2 : ys.length ≤ 1000) (h0 : 0 < ys.length) :
    Calls Tryz.prog 56 #[v, u] w (Gets (PartsV (val xs) (val ys)) w) := by
  rcases Nat.lt_or_ge xs.length ys.length with h | h
  · exact parts_small h1 h2 g1 g2 n1 n2 s2 h
  · exact parts_big h1 h2 g1 g2 n1 n2 s1 s2 h0 h
theorem cells2 {W : World} {B : Nat} {p s : Value} {t : TypeId} (k : W.heap[B]? = some (.cells #[p, s] t)) : W.cell? ⟨B, 0, none⟩ = some p ∧ W.cell? ⟨B, 1, none⟩ = some s ∧ W.frozen? ⟨B, 0, none⟩ = false ∧ W.frozen? ⟨B, 1, none⟩ = false :=
  ⟨cellOf k, cellOf k, frozenOf k, frozenOf k⟩
theorem below_al {w0 W : World} (h : Below w0.heap.size w0 W) (o : Obj) : Below w0.heap.size w0 (W.alloc o) := h.alloc h.size o
theorem below_st {w0 W : World} {a : Addr} (h : Below w0.heap.size w0 W) (ha : w0.heap.size ≤ a.block) (u : Value) : Below w0.heap.size w0 (W.setCell a u) := h.setCell ha u
theorem lay1 {W w' : World} {z : Obj} (hb : Below (W.alloc z).heap.size (W.alloc z) w') : w'.heap[W.heap.size]? = some z :=
  (hb.block W.heap.size (by simp)).trans (MapKept.heap_alloc W z).1
theorem lay2 {W w' : World} {z z' : Obj} (hb : Below ((W.alloc z).alloc z').heap.size ((W.alloc z).alloc z') w') : w'.heap[W.heap.size]? = some z ∧ w'.heap[W.heap.size + 1]? = some z' :=
  ⟨(hb.block W.heap.size (by simp; omega)).trans (heap2 W z z').1, (hb.block (W.heap.size + 1) (by simp)).trans (heap2 W z z').2⟩
theorem lay1d {W w' : World} {z : Obj} (hb : Below ((W.alloc z).drew).heap.size ((W.alloc z).drew) w') : w'.heap[W.heap.size]? = some z := lay1 (W := W) (z := z) ⟨hb.os, hb.tape, hb.output, hb.size, hb.block⟩
theorem lay2d {W w' : World} {z z' : Obj} (hb : Below (((W.alloc z).alloc z').drew).heap.size (((W.alloc z).alloc z').drew) w') : w'.heap[W.heap.size]? = some z ∧ w'.heap[W.heap.size + 1]? = some z' := lay2 (W := W) (z := z) (z' := z') ⟨hb.os, hb.tape, hb.output, hb.size, hb.block⟩
theorem carry {W w' : World} {z : Obj} {B : Nat} (h : W.heap[B]? = some z) (hb : Below W.heap.size W w') : w'.heap[B]? = some z :=
  (hb.block B (Array.getElem?_eq_some_iff.1 h).1).trans h
theorem lt_of_heap {W : World} {z : Obj} {B : Nat} (h : W.heap[B]? = some z) : B < W.heap.size := (Array.getElem?_eq_some_iff.1 h).1
/-- Two boxes of numbers of any length. -/
structure Two2 (wb W : World) (B8 B9 : Nat) (b2 : Bool) (v2 : Value) (b3 : Bool) (v3 : Value) : Prop where
  bel : Below wb.heap.size wb W
  ge8 : wb.heap.size ≤ B8
  ge9 : wb.heap.size ≤ B9
  ne : B8 ≠ B9
  k8 : W.heap[B8]? = some (.cells #[.bool b2, v2] 69)
  k9 : W.heap[B9]? = some (.cells #[.bool b3, v3] 69)
theorem ed_pos {p q : Bool} {x y Q R : Int} (hy : 0 < y) (hQ : Q = x / y) (hR : R = x % y) (h : 0 ≤ sgz p R) : sgz p x / sgz q y = sgz (!(p == q)) Q ∧ sgz p x % sgz q y = sgz p R := by
  have e := Int.mul_ediv_add_emod x y
  have r0 := Int.emod_nonneg x (show y ≠ 0 by omega)
  rw [← hQ, ← hR] at e
  rw [← hR] at r0
  cases p with
  | false =>
    cases q with
    | false => exact ⟨hQ.symm, hR.symm⟩
    | true =>
      refine ⟨?_, ?_⟩
      · show x / -y = -Q
        rw [Int.ediv_neg, ← hQ]
      · show x % -y = R
        rw [Int.emod_neg, ← hR]
  | true =>
    have hR0 : R = 0 := by rw [sgz_t] at h; omega
    subst hR0
    have e2 : -x = y * (-Q) := by rw [← e, Int.mul_neg]; omega
    have d1 : -x / y = -Q := by rw [e2]; exact Int.mul_ediv_cancel_left _ (by omega)
    have d2 : -x % y = 0 := by rw [e2]; exact Int.mul_emod_right _ _
    cases q with
    | false => exact ⟨d1, d2⟩
    | true =>
      refine ⟨?_, ?_⟩
      · show -x / -y = Q
        rw [Int.ediv_neg, d1, Int.neg_neg]
      · show -x % -y = -0
        rw [Int.emod_neg, d2]; rfl
theorem ed_neg {p q : Bool} {x y Q R : Int} (hy : 0 < y) (hQ : Q = x / y) (hR : R = x % y) (h : sgz p R < 0) : sgz p x / sgz q y = (if q = true then sgz (!(p == q)) Q + 1 else sgz (!(p == q)) Q - 1) ∧ sgz p x % sgz q y = sgz p R + y := by
  have e := Int.mul_ediv_add_emod x y
  have r0 := Int.emod_nonneg x (show y ≠ 0 by omega)
  have r1 := Int.emod_lt_of_pos x hy
  rw [← hQ, ← hR] at e
  rw [← hR] at r0 r1
  cases p with
  | false => rw [sgz_f] at h; omega
  | true =>
    rw [sgz_t] at h
    have e2 : -x = (-Q - 1) * y + (y - R) := by rw [← e]; grind
    obtain ⟨d1, d2⟩ := div_unique e2 (by omega) (by omega)
    cases q with
    | false =>
      refine ⟨?_, ?_⟩
      · show -x / y = -Q - 1
        exact d1.symm
      · show -x % y = -R + y
        rw [← d2]; omega
    | true =>
      refine ⟨?_, ?_⟩
      · show -x / -y = Q + 1
        rw [Int.ediv_neg, ← d1]; omega
      · show -x % -y = -R + y
        rw [Int.emod_neg, ← d2]; omega
def Two3 (wb W : World) (s8 s9 : Value) (zq zr : Int) : Prop :=
  ∃ B8 B9 b2 b3 v2 v3, s8 = .pointer (some ⟨B8, 0, none⟩) ∧ s9 = .pointer (some ⟨B9, 0, none⟩) ∧ Two2 wb W B8 B9 b2 v2 b3 v3 ∧ LongV W (.agg #[.bool b2, v2]) zq ∧ LongV W (.agg #[.bool b3, v3]) zr
theorem set2_heap {W : World} {B : Nat} {t : TypeId} {z0 z1 : Value} (k : W.heap[B]? = some (.cells #[z0, z1] t)) (u0 u1 : Value) : ((W.setCell ⟨B, 0, none⟩ u0).setCell ⟨B, 1, none⟩ u1).heap[B]? = some (.cells #[u0, u1] t) := by
  have h0 : (W.setCell ⟨B, 0, none⟩ u0).heap[B]? = some (.cells #[u0, z1] t) := heap_setCell_same _ B 0 _ t u0 k
  exact heap_setCell_same _ B 1 _ t u1 h0
theorem set2_other {W : World} {B C : Nat} (h : C ≠ B) (u0 u1 : Value) : ((W.setCell ⟨B, 0, none⟩ u0).setCell ⟨B, 1, none⟩ u1).heap[C]? = W.heap[C]? := by
  rw [Go.Deep.blk_setCell_other _ _ _ _ h, Go.Deep.blk_setCell_other _ _ _ _ h]
theorem below_set2 {wb W : World} {B : Nat} (x : Below wb.heap.size wb W) (h : wb.heap.size ≤ B) (u0 u1 : Value) : Below wb.heap.size wb ((W.setCell ⟨B, 0, none⟩ u0).setCell ⟨B, 1, none⟩ u1) := (x.setCell h _).setCell h _
section
variable {wb W : World} {b2 b3 : Bool} {v2 v3 : Value} {zq zr : Int}
theorem alloc_same (W : World) (o : Obj) : (W.alloc o).heap[W.heap.size]? = some o := (MapKept.heap_alloc W o).1
theorem fin_a (x : Below wb.heap.size wb W) (h2 : LongV W (.agg #[.bool b2, v2]) zq) (h3 : LongV W (.agg #[.bool b3, v3]) zr) : Two3 wb ((W.alloc (.cells #[.bool b2, v2] 69)).alloc (.cells #[.bool b3, v3] 69)) (.pointer (some ⟨W.heap.size, 0, none⟩)) (.pointer (some ⟨W.heap.size + 1, 0, none⟩)) zq zr := by
  obtain ⟨k8, k9⟩ := heap2 W (.cells #[.bool b2, v2] 69) (.cells #[.bool b3, v3] 69)
  have hB : Below W.heap.size W ((W.alloc (.cells #[.bool b2, v2] 69)).alloc (.cells #[.bool b3, v3] 69)) := below_al (below_al (Below.refl _ _) _) _
  exact ⟨_, _, _, _, _, _, rfl, rfl, ⟨below_al (below_al x _) _, x.size, Nat.le_succ_of_le x.size, by omega, k8, k9⟩, h2.below hB, h3.below hB⟩
theorem fin_a' (x : Below wb.heap.size wb W) (h2 : LongV W (.agg #[.bool b2, v2]) zq) (h3 : LongV W (.agg #[.bool b3, v3]) zr) : Two3 wb ((W.alloc (.cells #[.bool b3, v3] 69)).alloc (.cells #[.bool b2, v2] 69)) (.pointer (some ⟨W.heap.size + 1, 0, none⟩)) (.pointer (some ⟨W.heap.size, 0, none⟩)) zq zr := by
  obtain ⟨k9, k8⟩ := heap2 W (.cells #[.bool b3, v3] 69) (.cells #[.bool b2, v2] 69)
  have hB : Below W.heap.size W ((W.alloc (.cells #[.bool b3, v3] 69)).alloc (.cells #[.bool b2, v2] 69)) := below_al (below_al (Below.refl _ _) _) _
  exact ⟨_, _, _, _, _, _, rfl, rfl, ⟨below_al (below_al x _) _, Nat.le_succ_of_le x.size, x.size, by omega, k8, k9⟩, h2.below hB, h3.below hB⟩
theorem long_set2 {B : Nat} {v : Value} {z : Int} {b : Bool} {a : Option Addr} {n c : Nat} (m : W.heap[B]? = some (.cells #[.bool b, .slice a n c] 69)) (h : LongV W v z) (u0 u1 : Value) : LongV ((W.setCell ⟨B, 0, none⟩ u0).setCell ⟨B, 1, none⟩ u1) v z :=
  LongV.box2 h (cells2 m).1 (cells2 m).2.1 u0 u1
theorem fin_b {B : Nat} (x : Below wb.heap.size wb W) (h2 : LongV W (.agg #[.bool b2, v2]) zq) (h3 : LongV W (.agg #[.bool b3, v3]) zr) (m : W.heap[B]? = some (.cells #[.bool false, .slice none 0 0] 69)) (hB : wb.heap.size ≤ B) : Two3 wb (((W.setCell ⟨B, 0, none⟩ (.bool b2)).setCell ⟨B, 1, none⟩ v2).alloc (.cells #[.bool b3, v3] 69)) (.pointer (some ⟨B, 0, none⟩)) (.pointer (some ⟨W.heap.size, 0, none⟩)) zq zr := by
  have hl := lt_of_heap m
  have hs : ((W.setCell ⟨B, 0, none⟩ (.bool b2)).setCell ⟨B, 1, none⟩ v2).heap.size = W.heap.size := by simp
  have k8 := set2_heap m (.bool b2) v2
  have L2 := long_set2 m h2 (.bool b2) v2
  have L3 := long_set2 m h3 (.bool b2) v2
  have X := below_set2 x hB (.bool b2) v2
  generalize (W.setCell ⟨B, 0, none⟩ (.bool b2)).setCell ⟨B, 1, none⟩ v2 = V at *
  have k9 := alloc_same V (.cells #[.bool b3, v3] 69)
  have hV : Below V.heap.size V (V.alloc (.cells #[.bool b3, v3] 69)) := below_al (Below.refl _ _) _
  rw [← hs] at hl ⊢
  exact ⟨_, _, _, _, _, _, rfl, rfl, ⟨below_al X _, hB, X.size, by omega, carry k8 hV, k9⟩, L2.below hV, L3.below hV⟩
theorem fin_b' {B : Nat} (x : Below wb.heap.size wb W) (h2 : LongV W (.agg #[.bool b2, v2]) zq) (h3 : LongV W (.agg #[.bool b3, v3]) zr) (m : W.heap[B]? = some (.cells #[.bool false, .slice none 0 0] 69)) (hB : wb.heap.size ≤ B) : Two3 wb (((W.setCell ⟨B, 0, none⟩ (.bool b3)).setCell ⟨B, 1, none⟩ v3).alloc (.cells #[.bool b2, v2] 69)) (.pointer (some ⟨W.heap.size, 0, none⟩)) (.pointer (some ⟨B, 0, none⟩)) zq zr := by
  have hl := lt_of_heap m
  have hs : ((W.setCell ⟨B, 0, none⟩ (.bool b3)).setCell ⟨B, 1, none⟩ v3).heap.size = W.heap.size := by simp
  have k9 := set2_heap m (.bool b3) v3
  have L2 := long_set2 m h2 (.bool b3) v3
  have L3 := long_set2 m h3 (.bool b3) v3
  have X := below_set2 x hB (.bool b3) v3
  generalize (W.setCell ⟨B, 0, none⟩ (.bool b3)).setCell ⟨B, 1, none⟩ v3 = V at *
  have k8 := alloc_same V (.cells #[.bool b2, v2] 69)
  have hV : Below V.heap.size V (V.alloc (.cells #[.bool b2, v2] 69)) := below_al (Below.refl _ _) _
  rw [← hs] at hl ⊢
  exact ⟨_, _, _, _, _, _, rfl, rfl, ⟨below_al X _, X.size, hB, by omega, k8, carry k9 hV⟩, L2.below hV, L3.below hV⟩
theorem fin_c {B C : Nat} (x : Below wb.heap.size wb W) (h2 : LongV W (.agg #[.bool b2, v2]) zq) (h3 : LongV W (.agg #[.bool b3, v3]) zr) (m : W.heap[B]? = some (.cells #[.bool false, .slice none 0 0] 69)) (m' : W.heap[C]? = some (.cells #[.bool false, .slice none 0 0] 69)) (hB : wb.heap.size ≤ B) (hC : wb.heap.size ≤ C) (hne : B ≠ C) :
    Two3 wb ((((W.setCell ⟨B, 0, none⟩ (.bool b2)).setCell ⟨B, 1, none⟩ v2).setCell ⟨C, 0, none⟩ (.bool b3)).setCell ⟨C, 1, none⟩ v3) (.pointer (some ⟨B, 0, none⟩)) (.pointer (some ⟨C, 0, none⟩)) zq zr := by
  have k8 := set2_heap m (.bool b2) v2
  have L2 := long_set2 m h2 (.bool b2) v2
  have L3 := long_set2 m h3 (.bool b2) v2
  have X := below_set2 x hB (.bool b2) v2
  have m'' := (set2_other (W := W) (B := B) hne.symm (.bool b2) v2).trans m'
  generalize (W.setCell ⟨B, 0, none⟩ (.bool b2)).setCell ⟨B, 1, none⟩ v2 = V at *
  exact ⟨_, _, _, _, _, _, rfl, rfl, ⟨below_set2 X hC _ _, hB, hC, hne, (set2_other hne _ _).trans k8, set2_heap m'' _ _⟩, long_set2 m'' L2 _ _, long_set2 m'' L3 _ _⟩
end
set_option maxHeartbeats 6400000 in
set_option maxRecDepth 100000 in
theorem Parts_c {w : World} {p q : Bool} {s t : Value} {xs ys : List Int} (r1 : RowK .i64 w s xs) (r2 : RowK .i64 w t ys) (g1 : good xs) (g2 : good ys) (n1 : norm xs) (n2 : norm ys) (s1 : xs.length ≤ 64) (s2 : ys.length ≤ 64) (h0 : 0 < ys.length) :
    Calls Tryz.prog 26 #[.agg #[.bool p, s], .agg #[.bool q, t]] w (Gets (fun w' r => ∃ a b, r = .tuple #[a, b] ∧ LongV w' a (sgz p (val xs) / sgz q (val ys)) ∧ LongV w' b (sgz p (val xs) % sgz q (val ys))) w) := by
  obtain ⟨a, c, rfl, hc⟩ := r1.len
  obtain ⟨a', c', rfl, hc'⟩ := r2.len
  obtain ⟨k1, k2, k3, k4⟩ := heap4 w (.cells #[.bool p, .slice a xs.length c] 69) (.cells #[.bool q, .slice a' ys.length c'] 69) (.cells #[.bool false, .slice none 0 0] 69) (.cells #[.bool false, .slice none 0 0] 69)
  have bw : Below w.heap.size w ((((w.alloc (.cells #[.bool p, .slice a xs.length c] 69)).alloc (.cells #[.bool q, .slice a' ys.length c'] 69)).alloc (.cells #[.bool false, .slice none 0 0] 69)).alloc (.cells #[.bool false, .slice none 0 0] 69)) := ((((Below.refl _ _).alloc (Nat.le_refl _) _).alloc (by simp) _).alloc (by simp; omega) _).alloc (by simp; omega) _
  have hbs : ((((w.alloc (.cells #[.bool p, .slice a xs.length c] 69)).alloc (.cells #[.bool q, .slice a' ys.length c'] 69)).alloc (.cells #[.bool false, .slice none 0 0] 69)).alloc (.cells #[.bool false, .slice none 0 0] 69)).heap.size = w.heap.size + 4 := by simp
  go_enter Tryz.func26, Tryz.ntmps26
  go_wp2_with fail
  generalize ((((w.alloc (.cells #[.bool p, .slice a xs.length c] 69)).alloc (.cells #[.bool q, .slice a' ys.length c'] 69)).alloc (.cells #[.bool false, .slice none 0 0] 69)).alloc (.cells #[.bool false, .slice none 0 0] 69)) = wb at *
  have R1 : ∀ W, Below wb.heap.size wb W → RowK .i64 W (.slice a xs.length c) xs := fun W hW => r1.below (bw.trans (hW.mono bw.size))
  have R2 : ∀ W, Below wb.heap.size wb W → RowK .i64 W (.slice a' ys.length c') ys := fun W hW => r2.below (bw.trans (hW.mono bw.size))
  have C1 : ∀ W, Below wb.heap.size wb W → W.cell? ⟨w.heap.size, 0, none⟩ = some (.bool p) ∧ W.cell? ⟨w.heap.size + 1, 0, none⟩ = some (.bool q) ∧ W.cell? ⟨w.heap.size + 1, 1, none⟩ = some (.slice a' ys.length c') := fun W hW => by
    have e1 := cells2 ((hW.block w.heap.size (by omega)).trans k1)
    have e2 := cells2 ((hW.block (w.heap.size + 1) (by omega)).trans k2)
    exact ⟨e1.1, e2.1, e2.2.1⟩
  have x0 : Below wb.heap.size wb wb := Below.refl _ _
  refine (parts_c (R1 _ x0) (R2 _ x0) g1 g2 n1 n2 (by omega) (by omega) h0).mono ?_
  rintro e w1 ⟨v1, rfl, ⟨qv, rv, rfl, ⟨qs, hq, gq, nq, vq⟩, ⟨rs, hr, gr, nr, vr⟩⟩, hb1⟩
  have x1 := (next0 x0 hb1).drew
  obtain ⟨aq, cq, rfl, hcq⟩ := hq.len
  obtain ⟨ar, cr, rfl, hcr⟩ := hr.len
  have lq : qs.length ≤ 64 := by
    refine Nat.le_trans (dig_len_le gq nq g1 ?_) s1
    rw [vq]; exact Int.ediv_le_self _ (val_bounds g1).1
  have lr : rs.length ≤ 64 := by
    refine Nat.le_trans (dig_len_le gr nr g1 ?_) s1
    have e1 := (val_bounds g2).1
    rw [vr, Int.emod_def]
    have e2 := Int.mul_nonneg e1 (Int.ediv_nonneg (val_bounds g1).1 e1)
    omega
  have hq' := @RowK.drew noAv _ _ _ _ hq
  have hr' := @RowK.drew noAv _ _ _ _ hr
  have allS : ∀ W, Below wb.heap.size wb W → W.cell? ⟨w.heap.size, 0, none⟩ = some (.bool p) ∧ W.cell? ⟨w.heap.size + 1, 0, none⟩ = some (.bool q) := fun W hW => ⟨(C1 W hW).1, (C1 W hW).2.1⟩
  clear hb1 k1 k2 hq hr
  have lq' : qs.length ≤ 1048576 := Nat.le_trans lq (by decide)
  have lr' : rs.length ≤ 1048576 := Nat.le_trans lr (by decide)
  go_wp2_with fail
  have HQ : ∀ W, Below w1.drew.heap.size w1.drew W → RowK .i64 W (.slice aq qs.length cq) qs := fun W hW => hq'.below hW
  have HR : ∀ W, Below w1.drew.heap.size w1.drew W → RowK .i64 W (.slice ar rs.length cr) rs := fun W hW => hr'.below hW
  have hS : ∀ W, Below w1.drew.heap.size w1.drew W → W.cell? ⟨w.heap.size, 0, none⟩ = some (.bool p) ∧ W.cell? ⟨w.heap.size + 1, 0, none⟩ = some (.bool q) := fun W hW => allS W (x1.trans (hW.mono x1.size))
  have y1 : Below w1.drew.heap.size w1.drew w1.drew := Below.refl _ _
  have y1a : ∀ o, Below w1.drew.heap.size w1.drew (w1.alloc o).drew := fun o => below_al y1 o
  have y1b : ∀ o o', Below w1.drew.heap.size w1.drew ((w1.alloc o).alloc o').drew := fun o o' => below_al (below_al y1 o) o'
  go_cut [8, 9] from 18 to 28 (fun s8 s9 wx => Two3 wb wx s8 s9 (sgz (!(p == q)) (val qs)) (sgz p (val rs)))
  case first =>
    go_region_held3 (fun w' => w'.cell? ⟨w.heap.size, 0, none⟩ = some (.bool p) ∧ w'.cell? ⟨w.heap.size + 1, 0, none⟩ = some (.bool q))
      ((refine hS _ ?_; (with_reducible (repeat' (first | exact y1 | exact y1a _ | exact y1b _ _ | exact y2 | exact y3 | refine below_al ?_ _ | refine below_st ?_ ?_ _))); all_goals (first | exact Nat.le_refl _ | exact Nat.le_succ _ | exact y2.size | exact y3.size | exact Nat.le_succ_of_le y2.size | exact Nat.le_succ_of_le y3.size)))
      (first | (go_at_call 57; ((with_reducible refine (made_c (!(p == q)) (HQ _ (by first | exact y1 | exact y1a _ | exact y1b _ _)) gq lq').mono ?_); rintro e w2 ⟨v2, rfl, hqL, hb2⟩; have y2 := next0 (by first | exact y1 | exact y1a _ | exact y1b _ _) hb2; (first | (have m1 := (lay2d hb2).1; have m2 := (lay2d hb2).2) | (have m1 := lay1d hb2) | skip); (try have i1 := lt_of_heap m1); (try have i2 := lt_of_heap m2); obtain ⟨b2, s2, zs2, rfl, hr2, g2', n2', p2', e2'⟩ := hqL; obtain ⟨a2, c2, rfl, -⟩ := hr2.len)) | (go_at_call 57; ((with_reducible refine (made_c p (HR _ (by first | exact y2 | exact below_al y2 _ | exact below_al (below_al y2 _) _)) gr lr').mono ?_); rintro e w3 ⟨v3, rfl, hrL, hb3⟩; have y3 := next0 (by first | exact y2 | exact below_al y2 _ | exact below_al (below_al y2 _) _) hb3; (first | (have m3 := (lay2 hb3).1; have m4 := (lay2 hb3).2) | (have m3 := lay1 hb3) | skip); have hb23 : Below w2.heap.size w2 w3 := next0 (by first | exact Below.refl _ _ | exact below_al (Below.refl _ _) _ | exact below_al (below_al (Below.refl _ _) _) _) hb3; have hr2 := hr2.below hb23; (try have m1 := carry m1 hb23); (try have m2 := carry m2 hb23); (try (have f1 := (cells2 m1).1; have f2 := (cells2 m1).2.1; have f3 := (cells2 m1).2.2.1; have f4 := (cells2 m1).2.2.2)); (try have l1 := lt_of_heap m1); (try (have f5 := (cells2 m2).1; have f6 := (cells2 m2).2.1; have f7 := (cells2 m2).2.2.1; have f8 := (cells2 m2).2.2.2)); (try have l2 := lt_of_heap m2); (try (have f9 := (cells2 m3).1; have f10 := (cells2 m3).2.1; have f11 := (cells2 m3).2.2.1; have f12 := (cells2 m3).2.2.2)); (try have l3 := lt_of_heap m3); (try (have f13 := (cells2 m4).1; have f14 := (cells2 m4).2.1; have f15 := (cells2 m4).2.2.1; have f16 := (cells2 m4).2.2.2)); (try have l4 := lt_of_heap m4); obtain ⟨b3, s3, zs3, rfl, hr3, g3', n3', p3', e3'⟩ := hrL; obtain ⟨a3, c3, rfl, -⟩ := hr3.len)))
    all_goals
      go_wp2
    all_goals
      go_meet
    all_goals
      have x3 : Below wb.heap.size wb w3 := x1.trans (y3.mono x1.size)
      have L2 : LongV w3 (.agg #[.bool b2, .slice a2 zs2.length c2]) (sgz (!(p == q)) (val qs)) := ⟨b2, _, zs2, rfl, hr2, g2', n2', p2', e2'⟩
      have L3 : LongV w3 (.agg #[.bool b3, .slice a3 zs3.length c3]) (sgz p (val rs)) := ⟨b3, _, zs3, rfl, hr3, g3', n3', p3', e3'⟩
      have z1 : wb.heap.size ≤ w1.heap.size := x1.size
      have z2 : wb.heap.size ≤ w2.heap.size := Nat.le_trans x1.size y2.size
      clear e2' e3' allS HQ HR hS y1 y2 y3 y1a y1b
      with_reducible first
        | exact fin_a x3 L2 L3
        | exact fin_a' x3 L2 L3
        | exact fin_b x3 L2 L3 m3 z2
        | exact fin_b x3 L2 L3 m1 z1
        | exact fin_b' x3 L2 L3 m3 z2
        | exact fin_b' x3 L2 L3 m1 z1
        | exact fin_c x3 L2 L3 m3 m4 z2 (Nat.le_succ_of_le z2) (by omega)
        | exact fin_c x3 L2 L3 m4 m3 (Nat.le_succ_of_le z2) z2 (by omega)
        | exact fin_c x3 L2 L3 m1 m2 z1 (Nat.le_succ_of_le z1) (by omega)
        | exact fin_c x3 L2 L3 m2 m1 (Nat.le_succ_of_le z1) z1 (by omega)
        | exact fin_c x3 L2 L3 m1 m3 z1 z2 (by omega)
        | exact fin_c x3 L2 L3 m3 m1 z2 z1 (by omega)
  case rest =>
    obtain ⟨B8, B9, b2, b3, v2, v3, rfl, rfl, T, LQ, LR⟩ := hcut
    obtain ⟨b2', s2, zs2, e2, hr2, g2', n2', p2', z2⟩ := id LQ
    obtain ⟨b3', s3, zs3, e3, hr3, g3', n3', p3', z3⟩ := id LR
    obtain ⟨a2, c2, rfl, -⟩ := hr2.len
    obtain ⟨a3, c3, rfl, -⟩ := hr3.len
    obtain ⟨rfl, rfl⟩ : b2 = b2' ∧ v2 = .slice a2 zs2.length c2 := by injection e2 with e2; injection e2 with e2; injection e2 with e4 e5; injection e4 with e4; injection e5 with e5; exact ⟨e4, e5⟩
    obtain ⟨rfl, rfl⟩ : b3 = b3' ∧ v3 = .slice a3 zs3.length c3 := by injection e3 with e3; injection e3 with e3; injection e3 with e4 e5; injection e4 with e4; injection e5 with e5; exact ⟨e4, e5⟩
    clear e2 e3
    obtain ⟨f1, f2, f3, f4⟩ := cells2 T.k8
    obtain ⟨f5, f6, f7, f8⟩ := cells2 T.k9
    obtain ⟨f9, f10, f11, f12⟩ := cells2 ((T.bel.block (w.heap.size + 1 + 1) (by omega)).trans k3)
    obtain ⟨f13, f14, f15, f16⟩ := cells2 ((T.bel.block (w.heap.size + 1 + 1 + 1) (by omega)).trans k4)
    clear allS HQ HR hS y1 y1a y1b x1 hq' hr'
    have q8 : w.heap.size + 1 + 1 + 1 < B8 := by have := T.ge8; omega
    have q9 : w.heap.size + 1 + 1 + 1 < B9 := by have := T.ge9; omega
    have hy0 : 0 < val ys := by
      have := norm_low g2 n2 h0
      have := pw_pos (ys.length - 1)
      omega
    go_upto_if 30 with (fail)
    go_cut [8, 9] from 31 to 43 (fun s8 s9 wx => Two3 wb wx s8 s9 (sgz p (val xs) / sgz q (val ys)) (sgz p (val xs) % sgz q (val ys)))
    case first =>
      cases b3 with
      | false =>
        have hnn : 0 ≤ sgz p (val rs) := by rw [z3, sgz_f]; exact (val_bounds g3').1
        obtain ⟨d1, d2⟩ := ed_pos (q := q) hy0 vq vr hnn
        go_wp2
        go_meet
        rw [d1, d2]
        exact ⟨B8, B9, _, _, _, _, rfl, rfl, T, LQ, LR⟩
      | true =>
        have hng : sgz p (val rs) < 0 := sign_t g3' n3' (p3' rfl) z3
        obtain ⟨d1, d2⟩ := ed_neg (q := q) hy0 vq vr hng
        have sm1 : small (sgz p (val rs)) := by
          have h1 := val_bounds gr
          have h2 := pw_mono lr
          unfold small
          cases p
          · rw [sgz_f]; have := pw_pos 64; omega
          · rw [sgz_t]; omega
        have sm2 : small (val ys) := by
          have h1 := val_bounds g2
          have h2 := pw_mono s2
          unfold small; have := pw_pos 64; omega
        have sm3 : small (sgz (!(p == q)) (val qs)) := by
          have h1 := val_bounds gq
          have h2 := pw_mono lq
          have h3 := pw_pos 64
          generalize (!(p == q)) = b at *
          unfold small
          cases b
          · rw [sgz_f]; omega
          · rw [sgz_t]; omega
        have sm4 : small 1 := by unfold small; have : pw 64 > 1 := by decide
                                 omega
        have hY : LongV wc (.agg #[.bool false, .slice a' ys.length c']) (val ys) := ⟨false, _, ys, rfl, R2 _ T.bel, g2, n2, (fun h => by cases h), rfl⟩
        obtain ⟨-, -, yD⟩ := C1 _ T.bel
        go_wp2_with fail
        refine (plus_c LR hY sm1 sm2).mono ?_
        rintro e w4 ⟨v4, rfl, h4, hb4⟩
        have X4 : Below wb.heap.size wb w4 := next0 T.bel hb4
        have m8 := carry T.k8 hb4
        have m9 := carry T.k9 hb4
        have LQ4 := LQ.below hb4
        obtain ⟨b4, s4, zs4, rfl, hr4, g4', n4', p4', z4⟩ := id h4
        obtain ⟨a4, c4, rfl, -⟩ := hr4.len
        have V8 := (set2_other (W := w4) (B := B9) T.ne (.bool b4) (.slice a4 zs4.length c4)).trans m8
        have V9 := set2_heap m9 (.bool b4) (.slice a4 zs4.length c4)
        have VX := below_set2 X4 T.ge9 (.bool b4) (.slice a4 zs4.length c4)
        have VQ := long_set2 m9 LQ4 (.bool b4) (.slice a4 zs4.length c4)
        have VR := long_set2 m9 h4 (.bool b4) (.slice a4 zs4.length c4)
        obtain ⟨-, y0, -⟩ := C1 _ X4
        obtain ⟨-, -, f7', f8'⟩ := cells2 m9
        obtain ⟨f5', f6', -, -⟩ := cells2 m9
        clear f1 f2 f3 f4 f5 f6 f7 f8 f9 f10 f11 f12 f13 f14 f15 f16 hb4 LQ4 h4 hr4 z4 m8 m9 hY yD
        have tne := T.ne
        have tg8 := T.ge8
        have tg9 := T.ge9
        clear T LR LQ
        cases q with
        | false =>
          go_upto_region 7 with (fail)
          generalize (w4.setCell ⟨B9, 0, none⟩ (.bool b4)).setCell ⟨B9, 1, none⟩ (.slice a4 zs4.length c4) = V at *
          obtain ⟨i1, i2, i3, i4⟩ := cells2 (W := V.drew) V8
          obtain ⟨i5, i6, i7, i8⟩ := cells2 (W := V) V8
          have vx := VX.drew
          have VQd := LongV.below (w := V.drew) (w' := V.drew) VQ (Below.refl _ _)
          have VRd := LongV.below (w := V.drew) (w' := V.drew) VR (Below.refl _ _)
          clear y0 f5' f6' f7' f8'
          go_region_with (first | (go_at_call 28; ((with_reducible refine (long1_0 1 (by decide) (by decide)).mono ?_)); rintro e w5 ⟨d5, rfl, h5, hb5⟩; have M8 := carry (W := V.drew) V8 hb5; obtain ⟨j1, j2, j3, j4⟩ := cells2 M8; have v5 := next0 vx hb5; have W8 := carry (W := V.drew) V9 hb5; have R5 := VRd.below hb5) | (go_at_call 34; ((with_reducible refine (minus_c (VQd.below hb5) h5 sm3 sm4).mono ?_)); rintro e w6 ⟨d6, rfl, h6, hb6⟩; have M6 := carry M8 hb6; obtain ⟨l1, l2, l3, l4⟩ := cells2 M6; have v6 := next0 v5 hb6; have W6 := carry W8 hb6; have R6 := R5.below hb6; obtain ⟨b6, s6, zs6, rfl, hr6, g6', n6', p6', z6⟩ := id h6; obtain ⟨a6, c6, rfl, -⟩ := hr6.len))
          all_goals
            go_wp2
          all_goals
            go_meet
          all_goals
            have e8 := set2_heap M6 (.bool b6) (.slice a6 zs6.length c6)
            have e9 := (set2_other (W := w6) (B := B8) tne.symm (.bool b6) (.slice a6 zs6.length c6)).trans W6
            have eX := below_set2 v6 tg8 (.bool b6) (.slice a6 zs6.length c6)
            have eQ := long_set2 M6 h6 (.bool b6) (.slice a6 zs6.length c6)
            have eR := long_set2 M6 R6 (.bool b6) (.slice a6 zs6.length c6)
            rw [d1, d2]
            exact ⟨B8, B9, _, _, _, _, rfl, rfl, ⟨eX, tg8, tg9, tne, e8, e9⟩, eQ, eR⟩
        | true =>
          go_upto_region 6 with (fail)
          generalize (w4.setCell ⟨B9, 0, none⟩ (.bool b4)).setCell ⟨B9, 1, none⟩ (.slice a4 zs4.length c4) = V at *
          obtain ⟨i1, i2, i3, i4⟩ := cells2 (W := V.drew) V8
          obtain ⟨i5, i6, i7, i8⟩ := cells2 (W := V) V8
          have vx := VX.drew
          have VQd := LongV.below (w := V.drew) (w' := V.drew) VQ (Below.refl _ _)
          have VRd := LongV.below (w := V.drew) (w' := V.drew) VR (Below.refl _ _)
          clear y0 f5' f6' f7' f8'
          go_region_with (first | (go_at_call 28; ((with_reducible refine (long1_0 1 (by decide) (by decide)).mono ?_)); rintro e w5 ⟨d5, rfl, h5, hb5⟩; have M8 := carry (W := V.drew) V8 hb5; obtain ⟨j1, j2, j3, j4⟩ := cells2 M8; have v5 := next0 vx hb5; have W8 := carry (W := V.drew) V9 hb5; have R5 := VRd.below hb5) | (go_at_call 33; ((with_reducible refine (plus_c (VQd.below hb5) h5 sm3 sm4).mono ?_)); rintro e w6 ⟨d6, rfl, h6, hb6⟩; have M6 := carry M8 hb6; obtain ⟨l1, l2, l3, l4⟩ := cells2 M6; have v6 := next0 v5 hb6; have W6 := carry W8 hb6; have R6 := R5.below hb6; obtain ⟨b6, s6, zs6, rfl, hr6, g6', n6', p6', z6⟩ := id h6; obtain ⟨a6, c6, rfl, -⟩ := hr6.len))
          all_goals
            go_wp2
          all_goals
            go_meet
          all_goals
            have e8 := set2_heap M6 (.bool b6) (.slice a6 zs6.length c6)
            have e9 := (set2_other (W := w6) (B := B8) tne.symm (.bool b6) (.slice a6 zs6.length c6)).trans W6
            have eX := below_set2 v6 tg8 (.bool b6) (.slice a6 zs6.length c6)
            have eQ := long_set2 M6 h6 (.bool b6) (.slice a6 zs6.length c6)
            have eR := long_set2 M6 R6 (.bool b6) (.slice a6 zs6.length c6)
            rw [d1, d2]
            exact ⟨B8, B9, _, _, _, _, rfl, rfl, ⟨eX, tg8, tg9, tne, e8, e9⟩, eQ, eR⟩
    case rest =>
      clear T LQ LR hr2 hr3 z2 z3 f1 f2 f3 f4 f5 f6 f7 f8 f9 f10 f11 f12 f13 f14 f15 f16 q8 q9
      obtain ⟨B8', B9', b4, b5, v4, v5, rfl, rfl, T, LQ, LR⟩ := hcut
      obtain ⟨b4', s4, zs4, e4, hr4, g4', n4', p4', z4⟩ := id LQ
      obtain ⟨b5', s5, zs5, e5, hr5, g5', n5', p5', z5⟩ := id LR
      obtain ⟨a4, c4, rfl, -⟩ := hr4.len
      obtain ⟨a5, c5, rfl, -⟩ := hr5.len
      obtain ⟨rfl, rfl⟩ : b4 = b4' ∧ v4 = .slice a4 zs4.length c4 := by injection e4 with e4; injection e4 with e4; injection e4 with e6 e7; injection e6 with e6; injection e7 with e7; exact ⟨e6, e7⟩
      obtain ⟨rfl, rfl⟩ : b5 = b5' ∧ v5 = .slice a5 zs5.length c5 := by injection e5 with e5; injection e5 with e5; injection e5 with e6 e7; injection e6 with e6; injection e7 with e7; exact ⟨e6, e7⟩
      have m4 := (T.bel.block (w.heap.size + 1 + 1) (by omega)).trans k3
      have m5 := (T.bel.block (w.heap.size + 1 + 1 + 1) (by omega)).trans k4
      have F4 := set2_heap m4 (.bool b4) (.slice a4 zs4.length c4)
      have F5 := (set2_other (W := wc) (B := w.heap.size + 1 + 1) (C := w.heap.size + 1 + 1 + 1) (by omega) (.bool b4) (.slice a4 zs4.length c4)).trans m5
      have G4 := (set2_other (B := w.heap.size + 1 + 1 + 1) (C := w.heap.size + 1 + 1) (by omega) (.bool b5) (.slice a5 zs5.length c5)).trans F4
      have G5 := set2_heap F5 (.bool b5) (.slice a5 zs5.length c5)
      have GQ := long_set2 F5 (long_set2 m4 LQ (.bool b4) (.slice a4 zs4.length c4)) (.bool b5) (.slice a5 zs5.length c5)
      have GR := long_set2 F5 (long_set2 m4 LR (.bool b4) (.slice a4 zs4.length c4)) (.bool b5) (.slice a5 zs5.length c5)
      have hW : Below w.heap.size w wc := bw.trans (T.bel.mono bw.size)
      have GB : Below w.heap.size w ((((wc.setCell ⟨w.heap.size + 1 + 1, 0, none⟩ (.bool b4)).setCell ⟨w.heap.size + 1 + 1, 1, none⟩ (.slice a4 zs4.length c4)).setCell ⟨w.heap.size + 1 + 1 + 1, 0, none⟩ (.bool b5)).setCell ⟨w.heap.size + 1 + 1 + 1, 1, none⟩ (.slice a5 zs5.length c5)) := (((hW.setCell (by simp; omega) _).setCell (by simp; omega) _).setCell (by simp; omega) _).setCell (by simp; omega) _
      obtain ⟨f1, f2, -, -⟩ := cells2 T.k8
      obtain ⟨f5, f6, -, -⟩ := cells2 T.k9
      obtain ⟨f9, f10, f11, f12⟩ := cells2 m4
      obtain ⟨f13, f14, f15, f16⟩ := cells2 m5
      obtain ⟨h4, h5, -, -⟩ := cells2 G4
      obtain ⟨h6, h7, -, -⟩ := cells2 G5
      have q8 : w.heap.size + 1 + 1 + 1 < B8' := by have := T.ge8; omega
      have q9 : w.heap.size + 1 + 1 + 1 < B9' := by have := T.ge9; omega
      clear e4 e5 z4 z5 hr4 hr5 LQ LR T m4 m5 F4 F5 G4 G5
      go_wp2
      go_region_held3 (fun w' => w'.cell? ⟨B8', 0, none⟩ = some (.bool b4) ∧ w'.cell? ⟨B8', 1, none⟩ = some (.slice a4 zs4.length c4) ∧ w'.cell? ⟨B9', 0, none⟩ = some (.bool b5) ∧ w'.cell? ⟨B9', 1, none⟩ = some (.slice a5 zs5.length c5))
        ((first | exact ⟨f1, f2, f5, f6⟩ | (refine ⟨?_, ?_, ?_, ?_⟩ <;> go_simp)))
        (first | (go_at_call 1; exact trivial))
      go_wp2
      exact bodyPost_ret (v := .tuple #[.agg #[.bool b4, .slice a4 zs4.length c4], .agg #[.bool b5, .slice a5 zs5.length c5]]) (by simp [results, Tryz.results26, go_sem, h4, h5, h6, h7]) rfl ⟨_, rfl, ⟨_, _, rfl, GQ, GR⟩, GB.drew⟩
end Go.Proofs.YtfeapgpjchjphaaGreat
