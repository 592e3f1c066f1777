/-
  Wide random numbers: draw.
-/
import Derived.Test.YtfeapgpjchjphaaGreatMW1b
import Derived.Deep.MidRow
import Derived.Sort.Row
set_option linter.all false
namespace Go.Proofs.YtfeapgpjchjphaaGreat
open Go Go.RowKit Go.Big Go.Shelf
attribute [local instance] noAv
attribute [local go_sem] Oper.semAt_some
theorem set8_same {W : World} {B : Nat} {t : TypeId} {v0 v1 v2 v3 v4 v5 v6 v7 u0 u1 u2 u3 u4 u5 u6 u7 : Value} (h : W.heap[B]? = some (.cells #[v0, v1, v2, v3, v4, v5, v6, v7] t)) :
    (((((((((W.setCell ⟨B, 0, none⟩ (u0)).setCell ⟨B, 1, none⟩ (u1)).setCell ⟨B, 2, none⟩ (u2)).setCell ⟨B, 3, none⟩ (u3)).setCell ⟨B, 4, none⟩ (u4)).setCell ⟨B, 5, none⟩ (u5)).setCell ⟨B, 6, none⟩ (u6)).setCell ⟨B, 7, none⟩ (u7))).heap[B]? = some (.cells #[u0, u1, u2, u3, u4, u5, u6, u7] t) := by
  have h0 : (W.setCell ⟨B, 0, none⟩ u0).heap[B]? = some (.cells #[u0, v1, v2, v3, v4, v5, v6, v7] t) := heap_setCell_same _ B 0 _ t u0 h
  have h1 : ((W.setCell ⟨B, 0, none⟩ u0).setCell ⟨B, 1, none⟩ u1).heap[B]? = some (.cells #[u0, u1, v2, v3, v4, v5, v6, v7] t) := heap_setCell_same _ B 1 _ t u1 h0
  have h2 : (((W.setCell ⟨B, 0, none⟩ u0).setCell ⟨B, 1, none⟩ u1).setCell ⟨B, 2, none⟩ u2).heap[B]? = some (.cells #[u0, u1, u2, v3, v4, v5, v6, v7] t) := heap_setCell_same _ B 2 _ t u2 h1
  have h3 : ((((W.setCell ⟨B, 0, none⟩ u0).setCell ⟨B, 1, none⟩ u1).setCell ⟨B, 2, none⟩ u2).setCell ⟨B, 3, none⟩ u3).heap[B]? = some (.cells #[u0, u1, u2, u3, v4, v5, v6, v7] t) := heap_setCell_same _ B 3 _ t u3 h2
  have h4 : (((((W.setCell ⟨B, 0, none⟩ u0).setCell ⟨B, 1, none⟩ u1).setCell ⟨B, 2, none⟩ u2).setCell ⟨B, 3, none⟩ u3).setCell ⟨B, 4, none⟩ u4).heap[B]? = some (.cells #[u0, u1, u2, u3, u4, v5, v6, v7] t) := heap_setCell_same _ B 4 _ t u4 h3
  have h5 : ((((((W.setCell ⟨B, 0, none⟩ u0).setCell ⟨B, 1, none⟩ u1).setCell ⟨B, 2, none⟩ u2).setCell ⟨B, 3, none⟩ u3).setCell ⟨B, 4, none⟩ u4).setCell ⟨B, 5, none⟩ u5).heap[B]? = some (.cells #[u0, u1, u2, u3, u4, u5, v6, v7] t) := heap_setCell_same _ B 5 _ t u5 h4
  have h6 : (((((((W.setCell ⟨B, 0, none⟩ u0).setCell ⟨B, 1, none⟩ u1).setCell ⟨B, 2, none⟩ u2).setCell ⟨B, 3, none⟩ u3).setCell ⟨B, 4, none⟩ u4).setCell ⟨B, 5, none⟩ u5).setCell ⟨B, 6, none⟩ u6).heap[B]? = some (.cells #[u0, u1, u2, u3, u4, u5, u6, v7] t) := heap_setCell_same _ B 6 _ t u6 h5
  have h7 : ((((((((W.setCell ⟨B, 0, none⟩ u0).setCell ⟨B, 1, none⟩ u1).setCell ⟨B, 2, none⟩ u2).setCell ⟨B, 3, none⟩ u3).setCell ⟨B, 4, none⟩ u4).setCell ⟨B, 5, none⟩ u5).setCell ⟨B, 6, none⟩ u6).setCell ⟨B, 7, none⟩ u7).heap[B]? = some (.cells #[u0, u1, u2, u3, u4, u5, u6, u7] t) := heap_setCell_same _ B 7 _ t u7 h6
  exact h7
theorem But.new {w W W' : World} {X b : Nat} (h : w.grownBy W (some X)) (h2 : W.grownBy W' (some b)) (hb : w.heap.size ≤ b) : w.grownBy W' (some X) :=
  ⟨h2.os.trans h.os, h2.tape.trans h.tape, h2.output.trans h.output, Nat.le_trans h.size h2.size, fun k hk hne => (h2.block k (Nat.lt_of_lt_of_le hk h.size) (fun e => by have := Option.some.inj e; omega)).trans (h.block k hk hne)⟩
/-- What the statement's blocks hold between two rounds. -/
structure DW (w : World) (X N B : Nat) (z : Obj) (rc : LoopState → Option Code → Loop) (st : LoopState) (pe : Option Code) (a0 a1 a2 a3 a4 a5 a6 a7 : Int) (e : Int) (W : World) : Prop where
  p3 : W.heap[N]? = some (.cells #[.func (.func 67) #[] #[.pointer (some ⟨B, 0, none⟩)]] 95)
  p4 : W.heap[N + 1]? = some (.cells #[.int .u64 a0, .int .u64 a1, .int .u64 a2, .int .u64 a3, .int .u64 a4, .int .u64 a5, .int .u64 a6, .int .u64 a7] 26)
  p5 : W.heap[N + 1 + 1]? = some (.cells #[.int .i64 e] 34)
  pb : W.heap[B]? = some z
  pl : W.heap[N + 5]? = some (.loop (rc st pe))
  pd : W.heap[N + 4]? = some (.deferred (some []))
  bel : w.grownBy W (some X)
theorem DW.setX {w : World} {X N B : Nat} {z : Obj} {rc : LoopState → Option Code → Loop} {st : LoopState} {pe : Option Code} {a0 a1 a2 a3 a4 a5 a6 a7 : Int} {e : Int} {W : World} (h : DW w X N B z rc st pe a0 a1 a2 a3 a4 a5 a6 a7 e W) {W' : World} (hb : W.grownBy W' (some X)) (lX : X < N) (hXB : B ≠ X) : DW w X N B z rc st pe a0 a1 a2 a3 a4 a5 a6 a7 e W' :=
  have k := fun {T : Nat} {o : Obj} (hT : W.heap[T]? = some o) (hne : T ≠ X) => (hb.block T (ltH hT) (fun e => hne (Option.some.inj e))).trans hT
  ⟨k h.p3 (by omega), k h.p4 (by omega), k h.p5 (by omega), k h.pb hXB, k h.pl (by omega), k h.pd (by omega), But.trans h.bel hb⟩
theorem DW.put {w : World} {X N B : Nat} {z : Obj} {rc : LoopState → Option Code → Loop} {st : LoopState} {pe : Option Code} {a0 a1 a2 a3 a4 a5 a6 a7 : Int} {e : Int} {W : World} (h : DW w X N B z rc st pe a0 a1 a2 a3 a4 a5 a6 a7 e W) (lB : B < N) (hn : w.heap.size ≤ N) (st' : LoopState) (pe' : Option Code) : DW w X N B z rc st' pe' a0 a1 a2 a3 a4 a5 a6 a7 e (W.putObj (N + 5) (.loop (rc st' pe'))) := by
  have hlt := ltH h.pl
  refine ⟨(World.putObj_heap_other (by omega)).trans h.p3, (World.putObj_heap_other (by omega)).trans h.p4, (World.putObj_heap_other (by omega)).trans h.p5, (World.putObj_heap_other (by omega)).trans h.pb, World.putObj_heap_same hlt, (World.putObj_heap_other (by omega)).trans h.pd, ?_⟩
  exact But.new h.bel (grownBy_putObj' W (N + 5) _) (by omega)
theorem DW.keep {w : World} {X N B : Nat} {z : Obj} {rc : LoopState → Option Code → Loop} {st : LoopState} {pe : Option Code} {a0 a1 a2 a3 a4 a5 a6 a7 : Int} {e : Int} {W : World} {W' : World} (h : DW w X N B z rc st pe a0 a1 a2 a3 a4 a5 a6 a7 e W) (hn : w.heap.size ≤ N) (hb : Below W.heap.size W W') : DW w X N B z rc st pe a0 a1 a2 a3 a4 a5 a6 a7 e W' :=
  ⟨keepH h.p3 hb, keepH h.p4 hb, keepH h.p5 hb, keepH h.pb hb, keepH h.pl hb, keepH h.pd hb, But.trans h.bel (But.of hb)⟩
theorem DW.shut {w : World} {X N B : Nat} {z : Obj} {rc : LoopState → Option Code → Loop} {st : LoopState} {pe : Option Code} {a0 a1 a2 a3 a4 a5 a6 a7 : Int} {e : Int} {W : World} (h : DW w X N B z rc st pe a0 a1 a2 a3 a4 a5 a6 a7 e W) (hn : w.heap.size ≤ N) :
    (W.putObj (N + 4) (.deferred none)).heap[N + 1]? = some (.cells #[.int .u64 a0, .int .u64 a1, .int .u64 a2, .int .u64 a3, .int .u64 a4, .int .u64 a5, .int .u64 a6, .int .u64 a7] 26) ∧ (W.putObj (N + 4) (.deferred none)).cell? ⟨N + 1 + 1, 0, none⟩ = some (.int .i64 e) ∧ w.grownBy (W.putObj (N + 4) (.deferred none)) (some X) :=
  ⟨(World.putObj_heap_other (by omega)).trans h.p4, (cellOf ((World.putObj_heap_other (by omega)).trans h.p5)).trans rfl,
    But.new h.bel (grownBy_putObj' W (N + 4) _) (by omega)⟩
theorem Below.set8 {n : Nat} {w W : World} {B : Nat} (h : Below n w W) (hB : n ≤ B) (u0 u1 u2 u3 u4 u5 u6 u7 : Value) : Below n w ((((((((W.setCell ⟨B, 0, none⟩ (u0)).setCell ⟨B, 1, none⟩ (u1)).setCell ⟨B, 2, none⟩ (u2)).setCell ⟨B, 3, none⟩ (u3)).setCell ⟨B, 4, none⟩ (u4)).setCell ⟨B, 5, none⟩ (u5)).setCell ⟨B, 6, none⟩ (u6)).setCell ⟨B, 7, none⟩ (u7)) :=
  (((((((h.setCell (p := ⟨B, 0, none⟩) hB _).setCell (p := ⟨B, 1, none⟩) hB _).setCell (p := ⟨B, 2, none⟩) hB _).setCell (p := ⟨B, 3, none⟩) hB _).setCell (p := ⟨B, 4, none⟩) hB _).setCell (p := ⟨B, 5, none⟩) hB _).setCell (p := ⟨B, 6, none⟩) hB _).setCell (p := ⟨B, 7, none⟩) hB _
theorem DW.take {w : World} {X N B : Nat} {z : Obj} {rc : LoopState → Option Code → Loop} {st : LoopState} {pe : Option Code} {a0 a1 a2 a3 a4 a5 a6 a7 : Int} {e : Int} {W : World} (h : DW w X N B z rc st pe a0 a1 a2 a3 a4 a5 a6 a7 e W) (lB : B < N) (hn : w.heap.size ≤ N) (y0 y1 y2 y3 y4 y5 y6 y7 f : Int) : DW w X N B z rc st pe y0 y1 y2 y3 y4 y5 y6 y7 f (((((((((W.setCell ⟨N + 1, 0, none⟩ (.int .u64 y0)).setCell ⟨N + 1, 1, none⟩ (.int .u64 y1)).setCell ⟨N + 1, 2, none⟩ (.int .u64 y2)).setCell ⟨N + 1, 3, none⟩ (.int .u64 y3)).setCell ⟨N + 1, 4, none⟩ (.int .u64 y4)).setCell ⟨N + 1, 5, none⟩ (.int .u64 y5)).setCell ⟨N + 1, 6, none⟩ (.int .u64 y6)).setCell ⟨N + 1, 7, none⟩ (.int .u64 y7)).setCell ⟨N + 1 + 1, 0, none⟩ (.int .i64 f)) := by
  have s1 := fun k (hk : k ≠ N + 1) => heap_set8 (W := W) (T := k) (B := N + 1) hk (.int .u64 y0) (.int .u64 y1) (.int .u64 y2) (.int .u64 y3) (.int .u64 y4) (.int .u64 y5) (.int .u64 y6) (.int .u64 y7)
  have s2 := fun k (hk : k ≠ N + 1 + 1) => Go.Proofs.YtfeapgpjchjphaaGreat.setOther (w := ((((((((W.setCell ⟨N + 1, 0, none⟩ (.int .u64 y0)).setCell ⟨N + 1, 1, none⟩ (.int .u64 y1)).setCell ⟨N + 1, 2, none⟩ (.int .u64 y2)).setCell ⟨N + 1, 3, none⟩ (.int .u64 y3)).setCell ⟨N + 1, 4, none⟩ (.int .u64 y4)).setCell ⟨N + 1, 5, none⟩ (.int .u64 y5)).setCell ⟨N + 1, 6, none⟩ (.int .u64 y6)).setCell ⟨N + 1, 7, none⟩ (.int .u64 y7))) hk (.int .i64 f)
  refine ⟨((s2 _ (by omega)).trans (s1 _ (by omega))).trans h.p3, (s2 _ (by omega)).trans (set8_same h.p4), heap_setCell_same _ (N + 1 + 1) 0 _ 34 _ ((s1 _ (by omega)).trans h.p5), ((s2 _ (by omega)).trans (s1 _ (by omega))).trans h.pb, ((s2 _ (by omega)).trans (s1 _ (by omega))).trans h.pl, ((s2 _ (by omega)).trans (s1 _ (by omega))).trans h.pd, ?_⟩
  exact But.set (But.set8 h.bel (by omega) _ _ _ _ _ _ _ _) (.inr (by omega)) 0 _
noncomputable def drawW6 : Code := ((Tryz.f64.body.bind (findRs 6)).getD .skip)
/-- What the last region reads. -/
def RS6 (N : Nat) (a0 a1 a2 a3 a4 a5 a6 a7 e : Int) (w' : World) : Prop := w'.cell? ⟨N + 1, 0, none⟩ = some (.int .u64 a0) ∧ w'.cell? ⟨N + 1, 1, none⟩ = some (.int .u64 a1) ∧ w'.cell? ⟨N + 1, 2, none⟩ = some (.int .u64 a2) ∧ w'.cell? ⟨N + 1, 3, none⟩ = some (.int .u64 a3) ∧ w'.cell? ⟨N + 1, 4, none⟩ = some (.int .u64 a4) ∧ w'.cell? ⟨N + 1, 5, none⟩ = some (.int .u64 a5) ∧ w'.cell? ⟨N + 1, 6, none⟩ = some (.int .u64 a6) ∧ w'.cell? ⟨N + 1, 7, none⟩ = some (.int .u64 a7) ∧ w'.cell? ⟨N + 1 + 1, 0, none⟩ = some (.int .i64 e) ∧ (∀ j, w'.frozen? ⟨N + 1, j, none⟩ = false) ∧ w'.frozen? ⟨N + 1 + 1, 0, none⟩ = false
theorem rs6_of {N : Nat} {a0 a1 a2 a3 a4 a5 a6 a7 e : Int} {U : World} (h4 : U.heap[N + 1]? = some (.cells #[.int .u64 a0, .int .u64 a1, .int .u64 a2, .int .u64 a3, .int .u64 a4, .int .u64 a5, .int .u64 a6, .int .u64 a7] 26)) (h5 : U.heap[N + 1 + 1]? = some (.cells #[.int .i64 e] 34)) : RS6 N a0 a1 a2 a3 a4 a5 a6 a7 e U.drew := by
  have g4 : U.drew.heap[N + 1]? = some (.cells #[.int .u64 a0, .int .u64 a1, .int .u64 a2, .int .u64 a3, .int .u64 a4, .int .u64 a5, .int .u64 a6, .int .u64 a7] 26) := h4
  have g5 : U.drew.heap[N + 1 + 1]? = some (.cells #[.int .i64 e] 34) := h5
  obtain ⟨x0, x1, x2, x3, x4, x5, x6, x7⟩ := eightC g4
  exact ⟨x0, x1, x2, x3, x4, x5, x6, x7, (cellOf g5).trans rfl, fun j => frozenOf g4, frozenOf g5⟩
theorem setCell_id {W : World} {B i : Nat} {v : Value} {cs : Array Value} {t : TypeId} {fr : Nat × Nat} (h : W.heap[B]? = some (.cells cs t fr)) (hv : cs[i]? = some v) : W.setCell ⟨B, i, none⟩ v = W := by
  rw [Go.Sort.setCell_eq]
  refine Go.Sort.mapBlock_id _ _ _ (fun c e fr' h' => ?_)
  rw [h] at h'
  injection h' with h'
  injection h' with h1 h2 h3
  subst h1
  apply Array.ext_getElem?
  intro k
  rw [Array.getElem?_setIfInBounds]
  split
  · rename_i hk
    subst hk
    split
    · exact hv.symm
    · rename_i hh
      rw [Array.getElem?_eq_none (Nat.le_of_not_lt hh)]
  · rfl
set_option maxHeartbeats 1600000 in
set_option maxRecDepth 100000 in
theorem draww_r6 {w : World} {X N B : Nat} {z : Obj} {rc : LoopState → Option Code → Loop} {st : LoopState} {pe : Option Code} {a0 a1 a2 a3 a4 a5 a6 a7 : Int} {e : Int} {W : World} (h : DW w X N B z rc st pe a0 a1 a2 a3 a4 a5 a6 a7 e W)
    (c0 c1 c2 c3 c6 c7 c8 c9 c10 c11 c12 c13 u14 u15 : Value) (ds : List Deferred) (K' : Act → World → Prop) (Q' : Exit → Act → World → Prop)
    (hKK : K' ⟨#[c0, c1, c2, c3, .pointer (some ⟨N + 1, 0, none⟩), .pointer (some ⟨N + 1 + 1, 0, none⟩), c6, c7, c8, c9, c10, c11, c12, c13, .agg #[.int .u64 a0, .int .u64 a1, .int .u64 a2, .int .u64 a3, .int .u64 a4, .int .u64 a5, .int .u64 a6, .int .u64 a7], .int .i64 e], ds⟩ W.drew) :
    Code.wp Tryz.prog drawW6 (Exit.then K' Q') ⟨#[c0, c1, c2, c3, .pointer (some ⟨N + 1, 0, none⟩), .pointer (some ⟨N + 1 + 1, 0, none⟩), c6, c7, c8, c9, c10, c11, c12, c13, u14, u15], ds⟩ W := by
  have h4 : W.drew.heap[N + 1]? = some (.cells #[.int .u64 a0, .int .u64 a1, .int .u64 a2, .int .u64 a3, .int .u64 a4, .int .u64 a5, .int .u64 a6, .int .u64 a7] 26) := h.p4
  have h5 : W.drew.heap[N + 1 + 1]? = some (.cells #[.int .i64 e] 34) := h.p5
  clear h
  conv => arg 2; whnf
  refine wp_region_noPanic ?_
  refine wp_region_held_drew (S := fun w' => w' = W.drew) (by kernel_rfl) rfl (fun hHeld => ?_)
  clear hHeld
  generalize W.drew = V at *
  have hr : V.rangeAt (N + 1) 0 [.int .u64 a0, .int .u64 a1, .int .u64 a2, .int .u64 a3, .int .u64 a4, .int .u64 a5, .int .u64 a6, .int .u64 a7] := fun j v hj => by rw [Nat.zero_add, cellOf h4, List.getElem?_toArray]; exact hj
  refine' wpAnyH_take (i := 0) (oi := _) (v := _) rfl (by kernel_rfl) (by kernel_rfl) (by kernel_rfl) (fun _ _ _ h => h)
    (yieldsIf_load_mid (by rfl) _ _ rfl (N + 1) 0 rfl [.int .u64 a0, .int .u64 a1, .int .u64 a2, .int .u64 a3, .int .u64 a4, .int .u64 a5, .int .u64 a6, .int .u64 a7] _ (fun _ h => by rw [h]; exact hr) Tryz.underlying26 rfl (by kernel_rfl)) rfl ?_
  try simp only [Act.put, List.setIfInBounds_toArray, List.set_cons_zero, List.set_cons_succ]
  clear hr
  obtain ⟨x0, x1, x2, x3, x4, x5, x6, x7⟩ := eightC h4
  have fz : ∀ j, V.frozen? ⟨N + 1, j, none⟩ = false := fun j => frozenOf h4
  have c5 : V.cell? ⟨N + 1 + 1, 0, none⟩ = some (.int .i64 e) := (cellOf h5).trans rfl
  have f5 : V.frozen? ⟨N + 1 + 1, 0, none⟩ = false := frozenOf h5
  have s0 := setCell_id (i := 0) (v := .int .u64 a0) h4 rfl
  have s1 := setCell_id (i := 1) (v := .int .u64 a1) h4 rfl
  have s2 := setCell_id (i := 2) (v := .int .u64 a2) h4 rfl
  have s3 := setCell_id (i := 3) (v := .int .u64 a3) h4 rfl
  have s4 := setCell_id (i := 4) (v := .int .u64 a4) h4 rfl
  have s5 := setCell_id (i := 5) (v := .int .u64 a5) h4 rfl
  have s6 := setCell_id (i := 6) (v := .int .u64 a6) h4 rfl
  have s7 := setCell_id (i := 7) (v := .int .u64 a7) h4 rfl
  have s8 := setCell_id (i := 0) (v := .int .i64 e) h5 rfl
  clear h4 h5
  refine wpAnyH_take (i := 1) (oi := _) (v := ?_) rfl (by kernel_rfl) (by kernel_rfl) (by kernel_rfl) (fun _ _ _ h => h) (Or.inl ⟨by rfl, ?_⟩) rfl ?_
  rotate_left
  · intro U hSw
    subst hSw
    go_simp
    try with_reducible rfl
  try simp only [Act.put, List.setIfInBounds_toArray, List.set_cons_zero, List.set_cons_succ]
  refine wpAnyH_ready (rs := [2]) (by kernel_rfl) (by simp) ?_
  refine AllReadyH.cons (o := _) rfl (fun K hK => ?_) AllReadyH.nil
  go_simp
  try rw [s0, s1, s2, s3, s4, s5, s6, s7]
  refine hK.out _ _ rfl (fun hHeld => ?_)
  clear hK K hHeld
  try simp only [Act.put, List.setIfInBounds_toArray, List.set_cons_zero, List.set_cons_succ]
  refine wpAnyH_ready (rs := [3]) (by kernel_rfl) (by simp) ?_
  refine AllReadyH.cons (o := _) rfl (fun K hK => ?_) AllReadyH.nil
  go_simp
  try rw [s8]
  refine hK.out _ _ rfl (fun hHeld => ?_)
  clear hK K hHeld
  try simp only [Act.put, List.setIfInBounds_toArray, List.set_cons_zero, List.set_cons_succ]
  refine wpAnyH_done (by kernel_rfl) ?_ _
  refine NoPanic.normal ?_
  exact hKK
end Go.Proofs.YtfeapgpjchjphaaGreat
