/-
  Contracts of the laws: the first statement of pairs.
-/
import Derived.Test.YtaafimabgcnbaabGreatDoorMR
import Derived.Test.YtaafimabgcnbaabGreatDoorMP
import Derived.Deep.CutRange
set_option linter.all false
namespace Go.Proofs.YtaafimabgcnbaabGreatDoor
open Go Go.RowKit Go.Big
attribute [local instance] noAv
/-- The cells of a wide integer, and of a pair. -/
def W8 (x : Int) : List Value := [.int .u64 (dig (un x) 0), .int .u64 (dig (un x) 1), .int .u64 (dig (un x) 2), .int .u64 (dig (un x) 3), .int .u64 (dig (un x) 4), .int .u64 (dig (un x) 5), .int .u64 (dig (un x) 6), .int .u64 (dig (un x) 7)]
def cellsP (p : Int × Int) : List Value := W8 p.1 ++ W8 p.2
theorem W8_of {x : Int} {A0 A1 A2 A3 A4 A5 A6 A7 : Value} (h : W x = .agg #[A0, A1, A2, A3, A4, A5, A6, A7]) : W8 x = [A0, A1, A2, A3, A4, A5, A6, A7] :=
  congrArg (fun v => match v with | .agg cs => cs.toList | _ => []) h
theorem small_lo (b : Bool) (l : Int) : -9223372036854775808 ≤ smallN b l ∧ smallN b l ≤ 9223372036854775807 := by
  unfold smallN sgz; split <;> omega
theorem nextA {w W W' : World} {o1 o : Obj} (hb : Below (w.heap.size + 1) (w.alloc o1) W) (h : Below (W.alloc o).heap.size (W.alloc o) W') : Below (w.heap.size + 1) (w.alloc o1) W' :=
  (hb.alloc (by have := hb.size; simp at this; omega) o).trans (h.mono (by have := hb.size; simp at this ⊢; omega))
theorem zeroA {W W' : World} {o : Obj} (h : Below (W.alloc o).heap.size (W.alloc o) W') : W'.heap[W.heap.size]? = some o :=
  (h.block W.heap.size (by simp)).trans (MapKept.heap_alloc W o).1
theorem zeroN {W W' : World} {B : Nat} {o : Obj} (hz : W.heap[B]? = some o) (h : Below W.heap.size W W') : W'.heap[B]? = some o :=
  (h.block B (Array.getElem?_eq_some_iff.1 hz).1).trans hz
theorem next0 {w0 W W' : World} (h : Below w0.heap.size w0 W) (hb : Below W.heap.size W W') : Below w0.heap.size w0 W' := h.trans (hb.mono h.size)
theorem next0a {w0 W W' : World} {o : Obj} (h : Below w0.heap.size w0 W) (hb : Below (W.alloc o).heap.size (W.alloc o) W') : Below w0.heap.size w0 W' :=
  (h.alloc h.size o).trans (hb.mono (by have := h.size; simp; omega))
theorem next0d {w0 W' : World} {o : Obj} (hb : Below ((w0.alloc o).drew).heap.size ((w0.alloc o).drew) W') : Below w0.heap.size w0 W' :=
  ((Below.refl _ w0).alloc (Nat.le_refl _) o).drew.trans (hb.mono (by show w0.heap.size ≤ (w0.alloc o).heap.size; simp))
theorem zeroD {w0 W' : World} {o : Obj} (h : Below ((w0.alloc o).drew).heap.size ((w0.alloc o).drew) W') : W'.heap[w0.heap.size]? = some o :=
  (h.block w0.heap.size (by show w0.heap.size < (w0.alloc o).heap.size; simp)).trans (MapKept.heap_alloc w0 o).1
theorem set16 {W : World} {B : Nat} {t : TypeId} {z0 z1 z2 z3 z4 z5 z6 z7 z8 z9 z10 z11 z12 z13 z14 z15 : Value} (k : W.heap[B]? = some (.cells #[z0, z1, z2, z3, z4, z5, z6, z7, z8, z9, z10, z11, z12, z13, z14, z15] t)) (u0 u1 u2 u3 u4 u5 u6 u7 u8 u9 u10 u11 u12 u13 u14 u15 : Value) :
    (((((((((((((((((W.setCell ⟨B, 0, none⟩ u0).setCell ⟨B, 1, none⟩ u1).setCell ⟨B, 2, none⟩ u2).setCell ⟨B, 3, none⟩ u3).setCell ⟨B, 4, none⟩ u4).setCell ⟨B, 5, none⟩ u5).setCell ⟨B, 6, none⟩ u6).setCell ⟨B, 7, none⟩ u7).setCell ⟨B, 8, none⟩ u8).setCell ⟨B, 9, none⟩ u9).setCell ⟨B, 10, none⟩ u10).setCell ⟨B, 11, none⟩ u11).setCell ⟨B, 12, none⟩ u12).setCell ⟨B, 13, none⟩ u13).setCell ⟨B, 14, none⟩ u14).setCell ⟨B, 15, none⟩ u15)).heap[B]? = some (.cells #[u0, u1, u2, u3, u4, u5, u6, u7, u8, u9, u10, u11, u12, u13, u14, u15] t) := by
  have h0 : ((W.setCell ⟨B, 0, none⟩ u0)).heap[B]? = some (.cells #[u0, z1, z2, z3, z4, z5, z6, z7, z8, z9, z10, z11, z12, z13, z14, z15] t) := heap_setCell_same _ B 0 _ t u0 k
  have h1 : (((W.setCell ⟨B, 0, none⟩ u0).setCell ⟨B, 1, none⟩ u1)).heap[B]? = some (.cells #[u0, u1, z2, z3, z4, z5, z6, z7, z8, z9, z10, z11, z12, z13, z14, z15] t) := heap_setCell_same _ B 1 _ t u1 h0
  have h2 : ((((W.setCell ⟨B, 0, none⟩ u0).setCell ⟨B, 1, none⟩ u1).setCell ⟨B, 2, none⟩ u2)).heap[B]? = some (.cells #[u0, u1, u2, z3, z4, z5, z6, z7, z8, z9, z10, z11, z12, z13, z14, z15] t) := heap_setCell_same _ B 2 _ t u2 h1
  have h3 : (((((W.setCell ⟨B, 0, none⟩ u0).setCell ⟨B, 1, none⟩ u1).setCell ⟨B, 2, none⟩ u2).setCell ⟨B, 3, none⟩ u3)).heap[B]? = some (.cells #[u0, u1, u2, u3, z4, z5, z6, z7, z8, z9, z10, z11, z12, z13, z14, z15] t) := heap_setCell_same _ B 3 _ t u3 h2
  have h4 : ((((((W.setCell ⟨B, 0, none⟩ u0).setCell ⟨B, 1, none⟩ u1).setCell ⟨B, 2, none⟩ u2).setCell ⟨B, 3, none⟩ u3).setCell ⟨B, 4, none⟩ u4)).heap[B]? = some (.cells #[u0, u1, u2, u3, u4, z5, z6, z7, z8, z9, z10, z11, z12, z13, z14, z15] t) := heap_setCell_same _ B 4 _ t u4 h3
  have h5 : (((((((W.setCell ⟨B, 0, none⟩ u0).setCell ⟨B, 1, none⟩ u1).setCell ⟨B, 2, none⟩ u2).setCell ⟨B, 3, none⟩ u3).setCell ⟨B, 4, none⟩ u4).setCell ⟨B, 5, none⟩ u5)).heap[B]? = some (.cells #[u0, u1, u2, u3, u4, u5, z6, z7, z8, z9, z10, z11, z12, z13, z14, z15] t) := heap_setCell_same _ B 5 _ t u5 h4
  have h6 : ((((((((W.setCell ⟨B, 0, none⟩ u0).setCell ⟨B, 1, none⟩ u1).setCell ⟨B, 2, none⟩ u2).setCell ⟨B, 3, none⟩ u3).setCell ⟨B, 4, none⟩ u4).setCell ⟨B, 5, none⟩ u5).setCell ⟨B, 6, none⟩ u6)).heap[B]? = some (.cells #[u0, u1, u2, u3, u4, u5, u6, z7, z8, z9, z10, z11, z12, z13, z14, z15] t) := heap_setCell_same _ B 6 _ t u6 h5
  have h7 : (((((((((W.setCell ⟨B, 0, none⟩ u0).setCell ⟨B, 1, none⟩ u1).setCell ⟨B, 2, none⟩ u2).setCell ⟨B, 3, none⟩ u3).setCell ⟨B, 4, none⟩ u4).setCell ⟨B, 5, none⟩ u5).setCell ⟨B, 6, none⟩ u6).setCell ⟨B, 7, none⟩ u7)).heap[B]? = some (.cells #[u0, u1, u2, u3, u4, u5, u6, u7, z8, z9, z10, z11, z12, z13, z14, z15] t) := heap_setCell_same _ B 7 _ t u7 h6
  have h8 : ((((((((((W.setCell ⟨B, 0, none⟩ u0).setCell ⟨B, 1, none⟩ u1).setCell ⟨B, 2, none⟩ u2).setCell ⟨B, 3, none⟩ u3).setCell ⟨B, 4, none⟩ u4).setCell ⟨B, 5, none⟩ u5).setCell ⟨B, 6, none⟩ u6).setCell ⟨B, 7, none⟩ u7).setCell ⟨B, 8, none⟩ u8)).heap[B]? = some (.cells #[u0, u1, u2, u3, u4, u5, u6, u7, u8, z9, z10, z11, z12, z13, z14, z15] t) := heap_setCell_same _ B 8 _ t u8 h7
  have h9 : (((((((((((W.setCell ⟨B, 0, none⟩ u0).setCell ⟨B, 1, none⟩ u1).setCell ⟨B, 2, none⟩ u2).setCell ⟨B, 3, none⟩ u3).setCell ⟨B, 4, none⟩ u4).setCell ⟨B, 5, none⟩ u5).setCell ⟨B, 6, none⟩ u6).setCell ⟨B, 7, none⟩ u7).setCell ⟨B, 8, none⟩ u8).setCell ⟨B, 9, none⟩ u9)).heap[B]? = some (.cells #[u0, u1, u2, u3, u4, u5, u6, u7, u8, u9, z10, z11, z12, z13, z14, z15] t) := heap_setCell_same _ B 9 _ t u9 h8
  have h10 : ((((((((((((W.setCell ⟨B, 0, none⟩ u0).setCell ⟨B, 1, none⟩ u1).setCell ⟨B, 2, none⟩ u2).setCell ⟨B, 3, none⟩ u3).setCell ⟨B, 4, none⟩ u4).setCell ⟨B, 5, none⟩ u5).setCell ⟨B, 6, none⟩ u6).setCell ⟨B, 7, none⟩ u7).setCell ⟨B, 8, none⟩ u8).setCell ⟨B, 9, none⟩ u9).setCell ⟨B, 10, none⟩ u10)).heap[B]? = some (.cells #[u0, u1, u2, u3, u4, u5, u6, u7, u8, u9, u10, z11, z12, z13, z14, z15] t) := heap_setCell_same _ B 10 _ t u10 h9
  have h11 : (((((((((((((W.setCell ⟨B, 0, none⟩ u0).setCell ⟨B, 1, none⟩ u1).setCell ⟨B, 2, none⟩ u2).setCell ⟨B, 3, none⟩ u3).setCell ⟨B, 4, none⟩ u4).setCell ⟨B, 5, none⟩ u5).setCell ⟨B, 6, none⟩ u6).setCell ⟨B, 7, none⟩ u7).setCell ⟨B, 8, none⟩ u8).setCell ⟨B, 9, none⟩ u9).setCell ⟨B, 10, none⟩ u10).setCell ⟨B, 11, none⟩ u11)).heap[B]? = some (.cells #[u0, u1, u2, u3, u4, u5, u6, u7, u8, u9, u10, u11, z12, z13, z14, z15] t) := heap_setCell_same _ B 11 _ t u11 h10
  have h12 : ((((((((((((((W.setCell ⟨B, 0, none⟩ u0).setCell ⟨B, 1, none⟩ u1).setCell ⟨B, 2, none⟩ u2).setCell ⟨B, 3, none⟩ u3).setCell ⟨B, 4, none⟩ u4).setCell ⟨B, 5, none⟩ u5).setCell ⟨B, 6, none⟩ u6).setCell ⟨B, 7, none⟩ u7).setCell ⟨B, 8, none⟩ u8).setCell ⟨B, 9, none⟩ u9).setCell ⟨B, 10, none⟩ u10).setCell ⟨B, 11, none⟩ u11).setCell ⟨B, 12, none⟩ u12)).heap[B]? = some (.cells #[u0, u1, u2, u3, u4, u5, u6, u7, u8, u9, u10, u11, u12, z13, z14, z15] t) := heap_setCell_same _ B 12 _ t u12 h11
  have h13 : (((((((((((((((W.setCell ⟨B, 0, none⟩ u0).setCell ⟨B, 1, none⟩ u1).setCell ⟨B, 2, none⟩ u2).setCell ⟨B, 3, none⟩ u3).setCell ⟨B, 4, none⟩ u4).setCell ⟨B, 5, none⟩ u5).setCell ⟨B, 6, none⟩ u6).setCell ⟨B, 7, none⟩ u7).setCell ⟨B, 8, none⟩ u8).setCell ⟨B, 9, none⟩ u9).setCell ⟨B, 10, none⟩ u10).setCell ⟨B, 11, none⟩ u11).setCell ⟨B, 12, none⟩ u12).setCell ⟨B, 13, none⟩ u13)).heap[B]? = some (.cells #[u0, u1, u2, u3, u4, u5, u6, u7, u8, u9, u10, u11, u12, u13, z14, z15] t) := heap_setCell_same _ B 13 _ t u13 h12
  have h14 : ((((((((((((((((W.setCell ⟨B, 0, none⟩ u0).setCell ⟨B, 1, none⟩ u1).setCell ⟨B, 2, none⟩ u2).setCell ⟨B, 3, none⟩ u3).setCell ⟨B, 4, none⟩ u4).setCell ⟨B, 5, none⟩ u5).setCell ⟨B, 6, none⟩ u6).setCell ⟨B, 7, none⟩ u7).setCell ⟨B, 8, none⟩ u8).setCell ⟨B, 9, none⟩ u9).setCell ⟨B, 10, none⟩ u10).setCell ⟨B, 11, none⟩ u11).setCell ⟨B, 12, none⟩ u12).setCell ⟨B, 13, none⟩ u13).setCell ⟨B, 14, none⟩ u14)).heap[B]? = some (.cells #[u0, u1, u2, u3, u4, u5, u6, u7, u8, u9, u10, u11, u12, u13, u14, z15] t) := heap_setCell_same _ B 14 _ t u14 h13
  have h15 : (((((((((((((((((W.setCell ⟨B, 0, none⟩ u0).setCell ⟨B, 1, none⟩ u1).setCell ⟨B, 2, none⟩ u2).setCell ⟨B, 3, none⟩ u3).setCell ⟨B, 4, none⟩ u4).setCell ⟨B, 5, none⟩ u5).setCell ⟨B, 6, none⟩ u6).setCell ⟨B, 7, none⟩ u7).setCell ⟨B, 8, none⟩ u8).setCell ⟨B, 9, none⟩ u9).setCell ⟨B, 10, none⟩ u10).setCell ⟨B, 11, none⟩ u11).setCell ⟨B, 12, none⟩ u12).setCell ⟨B, 13, none⟩ u13).setCell ⟨B, 14, none⟩ u14).setCell ⟨B, 15, none⟩ u15)).heap[B]? = some (.cells #[u0, u1, u2, u3, u4, u5, u6, u7, u8, u9, u10, u11, u12, u13, u14, u15] t) := heap_setCell_same _ B 15 _ t u15 h14
  exact h15
theorem meetA {w0 W : World} {B : Nat} {t : TypeId} {z0 z1 z2 z3 z4 z5 z6 z7 z8 z9 z10 z11 z12 z13 z14 z15 : Value} (hb : Below w0.heap.size w0 W) (k : W.heap[B]? = some (.cells #[z0, z1, z2, z3, z4, z5, z6, z7, z8, z9, z10, z11, z12, z13, z14, z15] t)) (hB : w0.heap.size ≤ B) (u0 u1 u2 u3 u4 u5 u6 u7 u8 u9 u10 u11 u12 u13 u14 u15 : Value) :
    Below w0.heap.size w0 ((((((((((((((((W.setCell ⟨B, 0, none⟩ u0).setCell ⟨B, 1, none⟩ u1).setCell ⟨B, 2, none⟩ u2).setCell ⟨B, 3, none⟩ u3).setCell ⟨B, 4, none⟩ u4).setCell ⟨B, 5, none⟩ u5).setCell ⟨B, 6, none⟩ u6).setCell ⟨B, 7, none⟩ u7).setCell ⟨B, 8, none⟩ u8).setCell ⟨B, 9, none⟩ u9).setCell ⟨B, 10, none⟩ u10).setCell ⟨B, 11, none⟩ u11).setCell ⟨B, 12, none⟩ u12).setCell ⟨B, 13, none⟩ u13).setCell ⟨B, 14, none⟩ u14).setCell ⟨B, 15, none⟩ u15) ∧ w0.heap.size ≤ B ∧ (((((((((((((((((W.setCell ⟨B, 0, none⟩ u0).setCell ⟨B, 1, none⟩ u1).setCell ⟨B, 2, none⟩ u2).setCell ⟨B, 3, none⟩ u3).setCell ⟨B, 4, none⟩ u4).setCell ⟨B, 5, none⟩ u5).setCell ⟨B, 6, none⟩ u6).setCell ⟨B, 7, none⟩ u7).setCell ⟨B, 8, none⟩ u8).setCell ⟨B, 9, none⟩ u9).setCell ⟨B, 10, none⟩ u10).setCell ⟨B, 11, none⟩ u11).setCell ⟨B, 12, none⟩ u12).setCell ⟨B, 13, none⟩ u13).setCell ⟨B, 14, none⟩ u14).setCell ⟨B, 15, none⟩ u15)).heap[B]? = some (.cells #[u0, u1, u2, u3, u4, u5, u6, u7, u8, u9, u10, u11, u12, u13, u14, u15] t) := by
  refine ⟨?_, hB, set16 k u0 u1 u2 u3 u4 u5 u6 u7 u8 u9 u10 u11 u12 u13 u14 u15⟩
  exact ((((((((((((((((hb.setCell hB u0).setCell hB u1).setCell hB u2).setCell hB u3).setCell hB u4).setCell hB u5).setCell hB u6).setCell hB u7).setCell hB u8).setCell hB u9).setCell hB u10).setCell hB u11).setCell hB u12).setCell hB u13).setCell hB u14).setCell hB u15)
def findR (n : Nat) : Code → Option Code
  | .region k o d => bif Nat.beq k n then some (.region k o d) else none
  | .seq a b => match findR n a with | some c => some c | none => findR n b
  | .loop c => findR n c
  | .block _ c => findR n c
  | .scope c => findR n c
  | .cond _ a b => match findR n a with | some c => some c | none => findR n b
  | _ => none
end Go.Proofs.YtaafimabgcnbaabGreatDoor
