/-
  draw: the first candidate that is taken, or none of two hundred.
-/
import Derived.Test.YtfeapgpjchjphaaGreatMCG
import Derived.Lib.Hide
import Derived.Deep.RegionHeld3
set_option linter.all false
namespace Go.Proofs.YtfeapgpjchjphaaGreat
open Go Go.RowKit Go.Big Go.Shelf
attribute [local instance] noAv
set_option maxHeartbeats 800000 in
set_option maxRecDepth 100000 in
theorem cands_c {w : World} (X : Nat) : Calls Tryz.prog 76 #[.func (.func 43) #[.pointer (some ⟨X, 0, none⟩)] #[]] w (fun e w' => e = .returned (.func (.func 89) #[] #[.pointer (some ⟨w.heap.size, 0, none⟩)]) ∧ w' = w.alloc (.cells #[.func (.func 43) #[.pointer (some ⟨X, 0, none⟩)] #[]] 89)) := by
  go_enter Tryz.func76, Tryz.ntmps76
  go_wp2
  go_ret
  exact ⟨rfl, rfl⟩
/-- What the statement's blocks hold between two rounds. -/
structure DJ (w : World) (n0 N B : Nat) (z : Obj) (rc : LoopState → Option Code → Loop) (st : LoopState) (pe : Option Code) (x e : Int) (W : World) : Prop where
  p3 : W.heap[N]? = some (.cells #[.func (.func 55) #[] #[.pointer (some ⟨B, 0, none⟩)]] 101)
  p4 : W.heap[N + 1]? = some (.cells #[.int .u64 x] 22)
  p5 : W.heap[N + 1 + 1]? = some (.cells #[.int .i64 e] 34)
  pb : W.heap[B]? = some z
  pl : W.heap[N + 5]? = some (.loop (rc st pe))
  pd : W.heap[N + 4]? = some (.deferred (some []))
  bel : Below n0 w W
theorem DJ.setX {w : World} {n0 N B X : Nat} {z : Obj} {rc : LoopState → Option Code → Loop} {st : LoopState} {pe : Option Code} {x e : Int} {W : World} (h : DJ w n0 N B z rc st pe x e W) (lX : X < N) (hXB : B ≠ X) (hn : n0 ≤ X) (v : Value) : DJ w n0 N B z rc st pe x e (W.setCell ⟨X, 0, none⟩ v) :=
  ⟨(Go.Proofs.YtfeapgpjchjphaaGreat.setOther (by omega) v).trans h.p3, (Go.Proofs.YtfeapgpjchjphaaGreat.setOther (by omega) v).trans h.p4, (Go.Proofs.YtfeapgpjchjphaaGreat.setOther (by omega) v).trans h.p5, (Go.Proofs.YtfeapgpjchjphaaGreat.setOther hXB v).trans h.pb, (Go.Proofs.YtfeapgpjchjphaaGreat.setOther (by omega) v).trans h.pl, (Go.Proofs.YtfeapgpjchjphaaGreat.setOther (by omega) v).trans h.pd, h.bel.setCell (p := ⟨X, 0, none⟩) hn v⟩
theorem DJ.put {w : World} {n0 N B : Nat} {z : Obj} {rc : LoopState → Option Code → Loop} {st : LoopState} {pe : Option Code} {x e : Int} {W : World} (h : DJ w n0 N B z rc st pe x e W) (lB : B < N) (hn : n0 ≤ N) (st' : LoopState) (pe' : Option Code) : DJ w n0 N B z rc st' pe' x e (W.putObj (N + 5) (.loop (rc st' pe'))) := by
  have hlt := ltH h.pl
  refine ⟨(World.putObj_heap_other (by omega)).trans h.p3, (World.putObj_heap_other (by omega)).trans h.p4, (World.putObj_heap_other (by omega)).trans h.p5, (World.putObj_heap_other (by omega)).trans h.pb, World.putObj_heap_same hlt, (World.putObj_heap_other (by omega)).trans h.pd, h.bel.trans ?_⟩
  exact (Below.refl n0 W).grown (grownBy_putObj' W (N + 5) _) (by omega) (fun k e => by cases e; omega)
theorem DJ.keep {w : World} {n0 N B : Nat} {z : Obj} {rc : LoopState → Option Code → Loop} {st : LoopState} {pe : Option Code} {x e : Int} {W W' : World} (h : DJ w n0 N B z rc st pe x e W) (hn : n0 ≤ N) (hb : Below W.heap.size W W') : DJ w n0 N B z rc st pe x e W' :=
  ⟨keepH h.p3 hb, keepH h.p4 hb, keepH h.p5 hb, keepH h.pb hb, keepH h.pl hb, keepH h.pd hb, h.bel.trans (hb.mono (by have := ltH h.p3; omega))⟩
theorem DJ.shut {w : World} {n0 N B : Nat} {z : Obj} {rc : LoopState → Option Code → Loop} {st : LoopState} {pe : Option Code} {x e : Int} {W : World} (h : DJ w n0 N B z rc st pe x e W) (hn : n0 ≤ N) :
    (W.putObj (N + 4) (.deferred none)).cell? ⟨N + 1, 0, none⟩ = some (.int .u64 x) ∧ (W.putObj (N + 4) (.deferred none)).cell? ⟨N + 1 + 1, 0, none⟩ = some (.int .i64 e) ∧ Below n0 w (W.putObj (N + 4) (.deferred none)) :=
  ⟨(cellOf ((World.putObj_heap_other (by omega)).trans h.p4)).trans rfl, (cellOf ((World.putObj_heap_other (by omega)).trans h.p5)).trans rfl,
    h.bel.trans ((Below.refl n0 W).grown (grownBy_putObj' W (N + 4) _) (by have := ltH h.pd; omega) (fun k e => by cases e; omega))⟩
theorem DJ.take {w : World} {n0 N B : Nat} {z : Obj} {rc : LoopState → Option Code → Loop} {st : LoopState} {pe : Option Code} {x e : Int} {W : World} (h : DJ w n0 N B z rc st pe x e W) (lB : B < N) (hn : n0 ≤ N) (y f : Int) : DJ w n0 N B z rc st pe y f ((W.setCell ⟨N + 1, 0, none⟩ (.int .u64 y)).setCell ⟨N + 1 + 1, 0, none⟩ (.int .i64 f)) := by
  have s1 := fun k (hk : k ≠ N + 1) => Go.Proofs.YtfeapgpjchjphaaGreat.setOther (w := W) hk (.int .u64 y)
  have s2 := fun k (hk : k ≠ N + 1 + 1) => Go.Proofs.YtfeapgpjchjphaaGreat.setOther (w := W.setCell ⟨N + 1, 0, none⟩ (.int .u64 y)) hk (.int .i64 f)
  refine ⟨((s2 _ (by omega)).trans (s1 _ (by omega))).trans h.p3, (s2 _ (by omega)).trans (heap_setCell_same W (N + 1) 0 _ 22 _ h.p4), heap_setCell_same _ (N + 1 + 1) 0 _ 34 _ ((s1 _ (by omega)).trans h.p5), ((s2 _ (by omega)).trans (s1 _ (by omega))).trans h.pb, ((s2 _ (by omega)).trans (s1 _ (by omega))).trans h.pl, ((s2 _ (by omega)).trans (s1 _ (by omega))).trans h.pd, ?_⟩
  exact (h.bel.setCell (p := ⟨N + 1, 0, none⟩) (by show n0 ≤ N + 1; omega) _).setCell (p := ⟨N + 1 + 1, 0, none⟩) (by show n0 ≤ N + 1 + 1; omega) _
def findRs (n : Nat) : Code → Option Code
  | .region k o d => bif Nat.beq k n then some (.region k o d) else none
  | .seq a b => match findRs n a with | some c => some c | none => findRs n b
  | .loop c => findRs n c
  | .block _ c => findRs n c
  | .scope c => findRs n c
  | .cond _ a b => match findRs n a with | some c => some c | none => findRs n b
  | _ => none
noncomputable def drawR6 : Code := ((Tryz.f54.body.bind (findRs 6)).getD .skip)
set_option maxHeartbeats 3200000 in
set_option maxRecDepth 100000 in
theorem draw_r6 {w W : World} {n0 N B : Nat} {z : Obj} {rc : LoopState → Option Code → Loop} {st : LoopState} {pe : Option Code} {x e : Int} (h : DJ w n0 N B z rc st pe x e W) (lB : B < N) (hn : n0 ≤ N)
    (c0 c1 c2 c3 c6 c7 c8 c9 c10 c11 c12 c13 u14 u15 : Value) (ds : List Deferred) (K' : Act → World → Prop) (Q' : Exit → Act → World → Prop)
    (hK : ∀ W', DJ w n0 N B z rc st pe x e W' → W'.heap.size = W.heap.size → (∀ k, k ≠ N + 1 → k ≠ N + 1 + 1 → W'.heap[k]? = W.heap[k]?) → K' ⟨#[c0, c1, c2, c3, .pointer (some ⟨N + 1, 0, none⟩), .pointer (some ⟨N + 1 + 1, 0, none⟩), c6, c7, c8, c9, c10, c11, c12, c13, .int .u64 x, .int .i64 e], ds⟩ W') :
    Code.wp Tryz.prog drawR6 (Exit.then K' Q') ⟨#[c0, c1, c2, c3, .pointer (some ⟨N + 1, 0, none⟩), .pointer (some ⟨N + 1 + 1, 0, none⟩), c6, c7, c8, c9, c10, c11, c12, c13, u14, u15], ds⟩ W := by
  have HK := Lib.hid hK
  clear hK
  have hd2 := h.take lB hn x e
  have e4 : W.drew.cell? ⟨N + 1, 0, none⟩ = some (.int .u64 x) := (cellOf (W := W) h.p4).trans rfl
  have e5 : W.drew.cell? ⟨N + 1 + 1, 0, none⟩ = some (.int .i64 e) := (cellOf (W := W) h.p5).trans rfl
  have g4 : W.drew.frozen? ⟨N + 1, 0, none⟩ = false := frozenOf (W := W) h.p4
  have g5 : W.drew.frozen? ⟨N + 1 + 1, 0, none⟩ = false := frozenOf (W := W) h.p5
  have k4 := heap_setCell_same W (N + 1) 0 _ 22 (.int .u64 x) h.p4
  have k5 := (Go.Proofs.YtfeapgpjchjphaaGreat.setOther (w := W) (X := N + 1) (T := N + 1 + 1) (by omega) (.int .u64 x)).trans h.p5
  have m4 : (W.setCell ⟨N + 1, 0, none⟩ (.int .u64 x)).drew.cell? ⟨N + 1, 0, none⟩ = some (.int .u64 x) := (cellOf (W := W.setCell ⟨N + 1, 0, none⟩ (.int .u64 x)) k4).trans rfl
  have m5 : (W.setCell ⟨N + 1, 0, none⟩ (.int .u64 x)).drew.cell? ⟨N + 1 + 1, 0, none⟩ = some (.int .i64 e) := (cellOf (W := W.setCell ⟨N + 1, 0, none⟩ (.int .u64 x)) k5).trans rfl
  have n4 : ((W.setCell ⟨N + 1, 0, none⟩ (.int .u64 x)).setCell ⟨N + 1 + 1, 0, none⟩ (.int .i64 e)).drew.cell? ⟨N + 1, 0, none⟩ = some (.int .u64 x) := (cellOf (W := (W.setCell ⟨N + 1, 0, none⟩ (.int .u64 x)).setCell ⟨N + 1 + 1, 0, none⟩ (.int .i64 e)) hd2.p4).trans rfl
  have n5 : ((W.setCell ⟨N + 1, 0, none⟩ (.int .u64 x)).setCell ⟨N + 1 + 1, 0, none⟩ (.int .i64 e)).drew.cell? ⟨N + 1 + 1, 0, none⟩ = some (.int .i64 e) := (cellOf (W := (W.setCell ⟨N + 1, 0, none⟩ (.int .u64 x)).setCell ⟨N + 1 + 1, 0, none⟩ (.int .i64 e)) hd2.p5).trans rfl
  have p5 : (W.setCell ⟨N + 1, 0, none⟩ (.int .u64 x)).drew.frozen? ⟨N + 1 + 1, 0, none⟩ = false := frozenOf (W := W.setCell ⟨N + 1, 0, none⟩ (.int .u64 x)) k5
  have r5 : ((W.setCell ⟨N + 1, 0, none⟩ (.int .u64 x)).setCell ⟨N + 1 + 1, 0, none⟩ (.int .i64 e)).drew.frozen? ⟨N + 1 + 1, 0, none⟩ = false := frozenOf (W := (W.setCell ⟨N + 1, 0, none⟩ (.int .u64 x)).setCell ⟨N + 1 + 1, 0, none⟩ (.int .i64 e)) hd2.p5
  clear k4 k5 h
  conv => arg 2; whnf
  go_region_held3 (fun w' => w'.cell? ⟨N + 1, 0, none⟩ = some (.int .u64 x) ∧ w'.cell? ⟨N + 1 + 1, 0, none⟩ = some (.int .i64 e) ∧ w'.frozen? ⟨N + 1 + 1, 0, none⟩ = false) ((with_reducible first | exact ⟨e4, e5, g5⟩ | exact ⟨m4, m5, p5⟩ | exact ⟨n4, n5, r5⟩)) (fail)
  show K' _ _
  refine HK.out _ ?_ ?_ ?_
  · exact ⟨hd2.p3, hd2.p4, hd2.p5, hd2.pb, hd2.pl, hd2.pd, hd2.bel.drew⟩
  · show ((W.setCell ⟨N + 1, 0, none⟩ (.int .u64 x)).setCell ⟨N + 1 + 1, 0, none⟩ (.int .i64 e)).heap.size = W.heap.size
    simp
  · intro k h1 h2
    exact (Go.Proofs.YtfeapgpjchjphaaGreat.setOther (w := W.setCell ⟨N + 1, 0, none⟩ (.int .u64 x)) h2 (.int .i64 e)).trans (Go.Proofs.YtfeapgpjchjphaaGreat.setOther (w := W) h1 (.int .u64 x))
/-- What has been drawn: the first number that is taken, with the state behind it; or none. -/
def DrawnP (n0 X : Nat) (s : Int) (ok : Int → Bool) (w : World) (e : Ending) (w' : World) : Prop :=
  Below n0 w w' ∧ ((∃ i, i < 200 ∧ (∀ j, j < i → ok (mix (stN j s)) = false) ∧ ok (mix (stN i s)) = true ∧ e = .returned (.tuple #[.int .u64 (mix (stN i s)), .int .i64 0]) ∧ w'.heap[X]? = some (.cells #[.int .u64 (stN (i + 1) s)] 88))
    ∨ ((∀ j, j < 200 → ok (mix (stN j s)) = false) ∧ e = .returned (.tuple #[.int .u64 0, .int .i64 9])))
theorem heapF (w : World) (o1 o2 o3 o4 : Obj) : ((((w.alloc o1).alloc o2).alloc o3).alloc o4).heap[w.heap.size]? = some o1 ∧ ((((w.alloc o1).alloc o2).alloc o3).alloc o4).heap[w.heap.size + 1]? = some o2 ∧ ((((w.alloc o1).alloc o2).alloc o3).alloc o4).heap[w.heap.size + 1 + 1]? = some o3 ∧ ((((w.alloc o1).alloc o2).alloc o3).alloc o4).heap[w.heap.size + 3]? = some o4 := by
  have h1 := (MapKept.heap_alloc w o1).1
  have h2 := (MapKept.heap_alloc (w.alloc o1) o2).1
  have h3 := (MapKept.heap_alloc ((w.alloc o1).alloc o2) o3).1
  have h4 := (MapKept.heap_alloc (((w.alloc o1).alloc o2).alloc o3) o4).1
  have a2 := (Below.refl _ (w.alloc o1)).alloc (Nat.le_refl _) o2
  have a3 := (Below.refl _ ((w.alloc o1).alloc o2)).alloc (Nat.le_refl _) o3
  have a4 := (Below.refl _ (((w.alloc o1).alloc o2).alloc o3)).alloc (Nat.le_refl _) o4
  have e2 : (w.alloc o1).heap.size = w.heap.size + 1 := by simp
  have e3 : ((w.alloc o1).alloc o2).heap.size = w.heap.size + 1 + 1 := by simp
  have e4 : (((w.alloc o1).alloc o2).alloc o3).heap.size = w.heap.size + 3 := by simp
  rw [e2] at h2
  rw [e3] at h3
  rw [e4] at h4
  exact ⟨keepH (keepH (keepH h1 a2) a3) a4, keepH (keepH h2 a3) a4, keepH h3 a4, h4⟩
attribute [local go_sem] Oper.semAt_some
set_option maxHeartbeats 3200000 in
set_option maxRecDepth 100000 in
theorem draw_c {w : World} {n0 X B : Nat} {s : Int} {z : Obj} (ok : Int → Bool) (hX : w.heap[X]? = some (.cells #[.int .u64 s] 88)) (hB : w.heap[B]? = some z) (hXB : B ≠ X) (hn : n0 ≤ X)
    (hP : ∀ x U, U.heap[B]? = some z → Calls Tryz.prog 55 #[.int .u64 x, .pointer (some ⟨B, 0, none⟩)] U (Gets (fun _ r => r = .bool (ok x)) U)) :
    Calls Tryz.prog 54 #[.func (.func 43) #[.pointer (some ⟨X, 0, none⟩)] #[], .func (.func 55) #[] #[.pointer (some ⟨B, 0, none⟩)]] w (DrawnP n0 X s ok w) := by
  have lX := ltH hX
  have lB := ltH hB
  refine (callsIn_wide (n := 9)).1 ?_
  refine callsIn_of_wp_marks Tryz.func54 rfl trivial ?_ rfl
  simp only [Tryz.ntmps54, List.size_toArray, List.length_cons, List.length_nil, Nat.reduceAdd, Nat.reduceSub, Array.replicate_succ, Array.replicate_zero, List.push_toArray, List.append_toArray, List.nil_append, List.cons_append]
  refine wpIn_wide.2 ?_
  go_wp2_with fail
  go_step3
  go_wp2_with fail
  go_step3
  go_wp2_with fail
  refine (cands_c X).mono ?_
  rintro e w5 ⟨rfl, rfl⟩
  obtain ⟨q3, q4, q5, qT⟩ := heapF w (.cells #[.func (.func 55) #[] #[.pointer (some ⟨B, 0, none⟩)]] 101) (.cells #[.int .u64 0] 22) (.cells #[.int .i64 9] 34) (.cells #[.func (.func 43) #[.pointer (some ⟨X, 0, none⟩)] #[]] 89)
  have sz : ((((w.alloc (.cells #[.func (.func 55) #[] #[.pointer (some ⟨B, 0, none⟩)]] 101)).alloc (.cells #[.int .u64 0] 22)).alloc (.cells #[.int .i64 9] 34)).alloc (.cells #[.func (.func 43) #[.pointer (some ⟨X, 0, none⟩)] #[]] 89)).heap.size = w.heap.size + 4 := by simp
  have szT : (((w.alloc (.cells #[.func (.func 55) #[] #[.pointer (some ⟨B, 0, none⟩)]] 101)).alloc (.cells #[.int .u64 0] 22)).alloc (.cells #[.int .i64 9] 34)).heap.size = w.heap.size + 3 := by simp
  have hb5 : Below w.heap.size w ((((w.alloc (.cells #[.func (.func 55) #[] #[.pointer (some ⟨B, 0, none⟩)]] 101)).alloc (.cells #[.int .u64 0] 22)).alloc (.cells #[.int .i64 9] 34)).alloc (.cells #[.func (.func 43) #[.pointer (some ⟨X, 0, none⟩)] #[]] 89)) :=
    ((((Below.refl _ w).alloc (Nat.le_refl _) _).alloc (by simp) _).alloc (by simp; omega) _).alloc (by simp; omega) _
  rw [szT]
  generalize ((((w.alloc (.cells #[.func (.func 55) #[] #[.pointer (some ⟨B, 0, none⟩)]] 101)).alloc (.cells #[.int .u64 0] 22)).alloc (.cells #[.int .i64 9] 34)).alloc (.cells #[.func (.func 43) #[.pointer (some ⟨X, 0, none⟩)] #[]] 89)) = w5 at *
  have hX5 := keepH hX hb5
  have hB5 := keepH hB hb5
  have hb6 := hb5.mono (Nat.le_trans hn (Nat.le_of_lt lX))
  clear hb5
  clear hX hB szT
  have hnN : n0 ≤ w5.heap.size := by rw [sz]; omega
  generalize hN : w.heap.size = N at *
  go_wp2_with fail
  rename_i hKr
  refine range_wide (gf := 89) (lb := #[.pointer (some ⟨N + 3, 0, none⟩)]) rfl (enters_of Tryz.func89 (by kernel_rfl) rfl) ?_
  intro fn rc hrc
  have k0 := fun o o' => (MapKept.heap_alloc (w5.alloc o) o').1
  have k1 := fun o => (MapKept.heap_alloc w5 o).1
  have b1 := fun o => (Below.refl w5.heap.size w5).alloc (Nat.le_refl _) o
  have b2 := fun o o' => (Below.refl (w5.alloc o).heap.size (w5.alloc o)).alloc (Nat.le_refl _) o'
  have sz1 : ∀ o, (w5.alloc o).heap.size = N + 5 := fun o => by simp [sz]
  simp only [sz1] at k0
  rw [sz] at k1
  have hd0 : DJ w n0 N B z rc .ready none 0 9 ((w5.alloc (.deferred (some []))).alloc (.loop (rc .ready none))) :=
    ⟨keepH (keepH q3 (b1 _)) (b2 _ _), keepH (keepH q4 (b1 _)) (b2 _ _), keepH (keepH q5 (b1 _)) (b2 _ _), keepH (keepH hB5 (b1 _)) (b2 _ _), k0 _ _, keepH (k1 _) (b2 _ _), (hb6.trans ((b1 _).mono hnN)).trans ((b2 _ _).mono (by rw [sz1]; omega))⟩
  have hX6 := keepH (keepH hX5 (b1 _)) (b2 (.deferred (some [])) (.loop (rc .ready none)))
  have hT6 := keepH (keepH qT (b1 _)) (b2 (.deferred (some [])) (.loop (rc .ready none)))
  clear k0 k1 b1 b2 sz1 q3 q4 q5 qT hb6 hX5 hB5
  have hend : ∀ W jump, W.heap[N + 5]? = some (.loop (rc .busy none)) → (Instr.endRound (N + 5) jump).run Tryz.prog W = .ok (.bool jump.isNone) (W.putObj (N + 5) (.loop (rc (if jump.isNone then .ready else .done) jump))) := by
    rw [hrc]; intro W jump h; exact run_endRound jump h
  have hstop : ∀ W st pe, st ≠ .busy → W.heap[N + 5]? = some (.loop (rc st pe)) → (Instr.endLoop (N + 5)).run Tryz.prog W = .ok pe (W.putObj (N + 5) (.loop (rc .exhausted pe))) := by
    rw [hrc]; intro W st pe hb h; exact run_endLoop h hb
  have Hrc := Lib.hid hrc
  have Hend := Lib.hid hend
  have Hstop := Lib.hid hstop
  clear hrc hend hstop
  simp only [sz]
  refine (cand_in (N + 5) (N + 3) X s (fun i W => (∀ j, j < i → ok (mix (stN j s)) = false) ∧ DJ w n0 N B z rc .ready none 0 9 W)
    (fun i W => ∃ k, i = k + 1 ∧ (∀ j, j < k → ok (mix (stN j s)) = false) ∧ ok (mix (stN k s)) = true ∧ W.heap[X]? = some (.cells #[.int .u64 (stN (k + 1) s)] 88) ∧ DJ w n0 N B z rc .done (some (.exit 0)) (mix (stN k s)) 0 W)
    ?hJs ?hY _ (by omega) hT6 hX6 ⟨fun j h => absurd h (by omega), hd0⟩).mono ?fin
  case hJs =>
    rintro i W v ⟨h1, h2⟩ -
    exact ⟨h1, h2.setX lX hXB hn v⟩
  case hY =>
    rintro i W ⟨hno, hd⟩ hXi hi
    suffices hS : ∀ R : Ending → World → Prop, (∀ W', ((∀ j, j < i + 1 → ok (mix (stN j s)) = false) ∧ DJ w n0 N B z rc .ready none 0 9 W') → W'.heap[X]? = W.heap[X]? → W'.heap[N + 3]? = W.heap[N + 3]? → R (.returned (.bool true)) W') →
        (∀ W', (∃ k, i + 1 = k + 1 ∧ (∀ j, j < k → ok (mix (stN j s)) = false) ∧ ok (mix (stN k s)) = true ∧ W'.heap[X]? = some (.cells #[.int .u64 (stN (k + 1) s)] 88) ∧ DJ w n0 N B z rc .done (some (.exit 0)) (mix (stN k s)) 0 W') → R (.returned (.bool false)) W') →
        YieldAt Fence.wide 3 Tryz.prog (N + 5) #[.int .u64 (mix (stN i s))] W R from
      hS _ (fun W' h1 h2 h3 => Or.inl ⟨rfl, h1, h2, h3⟩) (fun W' h => Or.inr ⟨rfl, h⟩)
    intro R hR1 hR2
    have HR1 := Lib.hid hR1
    have HR2 := Lib.hid hR2
    clear hR1 hR2
    have hl := hd.pl
    rw [Hrc.out] at hl
    refine yield_wide hl rfl ?_
    rw [← Hrc.out]
    have eT0 : (W.putObj (N + 5) (.loop (rc .busy none))).heap[N + 3]? = W.heap[N + 3]? := World.putObj_heap_other (by omega)
    have hd1 := hd.put lB (by omega) .busy none
    have hX1 : (W.putObj (N + 5) (.loop (rc .busy none))).heap[X]? = some (.cells #[.int .u64 (stN (i + 1) s)] 88) := (World.putObj_heap_other (by omega)).trans hXi
    generalize W.putObj (N + 5) (.loop (rc .busy none)) = Wb at *
    have c3 : Wb.cell? ⟨N, 0, none⟩ = some (.func (.func 55) #[] #[.pointer (some ⟨B, 0, none⟩)]) := (cellOf hd1.p3).trans rfl
    cases hok : ok (mix (stN i s)) with
    | false =>
      gi_wp2
      refine ⟨True.intro, (CallsIn.inRound (N + 5) (callsIn_wide.2 (hP _ _ hd1.pb))).mono ?_⟩
      rintro e W4 ⟨r, rfl, rfl, hb⟩
      rw [hok]
      have hd4 := hd1.keep (by omega) hb
      have HX := Lib.hid ((keepH hX1 hb).trans hXi.symm)
      have HT := Lib.hid ((hb.block (N + 3) (by have := ltH hd1.pl; omega)).trans eT0)
      clear hd1 hX1 c3 hb hd hl hXi eT0
      gi_wp2
      refine ⟨_, _, Hend.out W4 none hd4.pl, HR1.out _ ⟨fun j hj => ?_, hd4.put lB (by omega) .ready none⟩ ((World.putObj_heap_other (by omega)).trans HX.out) ((World.putObj_heap_other (by omega)).trans HT.out)⟩
      by_cases hji : j = i
      · subst hji; exact hok
      · exact hno j (by omega)
    | true =>
      gi_wp2
      refine ⟨True.intro, (CallsIn.inRound (N + 5) (callsIn_wide.2 (hP _ _ hd1.pb))).mono ?_⟩
      rintro e W4 ⟨r, rfl, rfl, hb⟩
      rw [hok]
      have hd4 := hd1.keep (by omega) hb
      have hX4 := keepH hX1 hb
      have e4 : W4.cell? ⟨N + 1, 0, none⟩ = some (.int .u64 0) := (cellOf hd4.p4).trans rfl
      have e5 : W4.cell? ⟨N + 1 + 1, 0, none⟩ = some (.int .i64 9) := (cellOf hd4.p5).trans rfl
      have g4 : W4.frozen? ⟨N + 1, 0, none⟩ = false := frozenOf hd4.p4
      have g5 : W4.frozen? ⟨N + 1 + 1, 0, none⟩ = false := frozenOf hd4.p5
      clear hd1 hX1 c3 hb hd hl hXi eT0
      have hd5 := hd4.take lB (by omega) (mix (stN i s)) 0
      have hX5 := ((Go.Proofs.YtfeapgpjchjphaaGreat.setOther (w := W4.setCell ⟨N + 1, 0, none⟩ (.int .u64 (mix (stN i s)))) (X := N + 1 + 1) (T := X) (by omega) (.int .i64 0)).trans (Go.Proofs.YtfeapgpjchjphaaGreat.setOther (w := W4) (X := N + 1) (T := X) (by omega) (.int .u64 (mix (stN i s))))).trans hX4
      clear hX4 hd4
      gi_wp2
      exact ⟨_, _, Hend.out _ (some (.exit 0)) hd5.pl, HR2.out _ ⟨i, rfl, hno, hok, (World.putObj_heap_other (by omega)).trans hX5, hd5.put lB (by omega) .done (some (.exit 0))⟩⟩
  case fin =>
    rintro e W2 ⟨⟨v, rfl⟩, ⟨hno, hd⟩ | ⟨i, hi, k, hk, hno, hok, hX2, hd⟩⟩
    · refine ⟨none, _, Hstop.out _ _ _ (by decide) hd.pl, ?_⟩
      have hd2 := hd.put lB (by omega) .exhausted none
      generalize W2.putObj (N + 5) (.loop (rc .exhausted none)) = W3 at *
      refine hKr _ _ ?_
      clear hKr hd hd0 hT6 hX6
      go_wp2
      refine draw_r6 hd2 lB (by omega) _ _ _ _ _ _ _ _ _ _ _ _ _ _ _ _ _ ?_
      intro W4 hd4 hsz4 hk4
      rename_i hKr2
      refine hKr2 _ _ ?_
      clear hKr2
      go_wp2
      obtain ⟨c4, c5, hb⟩ := hd4.shut (by omega)
      refine ⟨by simp, .inl ⟨_, _, rfl, run_takeDeferred hd4.pd, ?_⟩⟩
      exact ⟨.tuple #[.int .u64 0, .int .i64 9], by simp [results, Tryz.results54, go_sem, c4, c5], hb, .inr ⟨hno, rfl⟩⟩
    · obtain rfl : i = k := by omega
      refine ⟨some (.exit 0), _, Hstop.out _ _ _ (by decide) hd.pl, ?_⟩
      have hd2 := hd.put lB (by omega) .exhausted (some (.exit 0))
      have hX3 : (W2.putObj (N + 5) (.loop (rc .exhausted (some (.exit 0))))).heap[X]? = some (.cells #[.int .u64 (stN (i + 1) s)] 88) := (World.putObj_heap_other (by omega)).trans hX2
      generalize W2.putObj (N + 5) (.loop (rc .exhausted (some (.exit 0)))) = W3 at *
      refine wpIn_wide.2 ?_
      clear hX2 hd hd0 hT6 hX6
      have HN := Lib.hid hno
      have HO := Lib.hid hok
      clear hno hok
      go_wp2
      refine draw_r6 hd2 lB (by omega) _ _ _ _ _ _ _ _ _ _ _ _ _ _ _ _ _ ?_
      intro W4 hd4 hsz4 hk4
      rename_i hKr2
      refine hKr2 _ _ ?_
      clear hKr2
      go_wp2
      obtain ⟨c4, c5, hb⟩ := hd4.shut (by omega)
      have hX4 := (World.putObj_heap_other (w := W4) (r := N + 4) (o := .deferred none) (k := X) (by omega)).trans ((hk4 X (by omega) (by omega)).trans hX3)
      refine ⟨by simp, .inl ⟨_, _, rfl, run_takeDeferred hd4.pd, ?_⟩⟩
      exact ⟨.tuple #[.int .u64 (mix (stN i s)), .int .i64 0], by simp [results, Tryz.results54, go_sem, c4, c5], hb, .inl ⟨i, hi, HN.out, HO.out, rfl, hX4⟩⟩
end Go.Proofs.YtfeapgpjchjphaaGreat
