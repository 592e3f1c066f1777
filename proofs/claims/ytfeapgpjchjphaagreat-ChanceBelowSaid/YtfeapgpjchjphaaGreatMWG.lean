/-
  Wide random numbers: draw, the whole.
-/
import Derived.Test.YtfeapgpjchjphaaGreatMWF
set_option linter.all false
namespace Go.Proofs.YtfeapgpjchjphaaGreat
open Go Go.RowKit Go.Big Go.Shelf
attribute [local instance] noAv
attribute [local go_sem] Oper.semAt_some
set_option maxHeartbeats 800000 in
set_option maxRecDepth 100000 in
theorem candsw_c {w : World} (A L : Nat) : Calls Tryz.prog 80 #[.func (.func 65) #[] #[.pointer (some ⟨A, 0, none⟩), .pointer (some ⟨L, 0, none⟩)]] w (fun e w' => e = .returned (.func (.func 95) #[] #[.pointer (some ⟨w.heap.size, 0, none⟩)]) ∧ w' = w.alloc (.cells #[.func (.func 65) #[] #[.pointer (some ⟨A, 0, none⟩), .pointer (some ⟨L, 0, none⟩)]] 37)) := by
  go_enter Tryz.func80, Tryz.ntmps80
  go_wp2
  go_ret
  exact ⟨rfl, rfl⟩
/-- What has been drawn: the first candidate that is taken, with the state behind it; or none. -/
def DrawnW (X : Nat) (sN cv : Nat → Int) (ok : Int → Bool) (w : World) (e : Ending) (w' : World) : Prop :=
  w.grownBy w' (some X) ∧ ((∃ i, i < 200 ∧ (∀ j, j < i → ok (cv j) = false) ∧ ok (cv i) = true ∧ e = .returned (.tuple #[W (cv i), .int .i64 0]) ∧ w'.heap[X]? = some (.cells #[.int .u64 (sN (i + 1))] 88))
    ∨ ((∀ j, j < 200 → ok (cv j) = false) ∧ e = .returned (.tuple #[.agg #[.int .u64 0, .int .u64 0, .int .u64 0, .int .u64 0, .int .u64 0, .int .u64 0, .int .u64 0, .int .u64 0], .int .i64 9])))
theorem But.drew {w W : World} {X : Nat} (h : w.grownBy W (some X)) : w.grownBy W.drew (some X) := ⟨h.os, h.tape, h.output, h.size, h.block⟩
/-- What lies in a block. -/
def BlockIs (W : World) (l : Nat) (o : Obj) : Prop := W.heap[l]? = some o
theorem yield_wide2 {P : Program} {fn : FuncId} {tmps : Array Value} {ps : Array Tmp} {assign body : Code} {D l m : Nat} {W : World} {args : Array Value} {R : Ending → World → Prop}
    (hl : W.heap[l]? = some (.loop (lrec fn tmps ps assign body D .ready none))) (hs : args.size = ps.size)
    (h : assign.wpIn (Fence.wide.inRound l) m P (Exit.then (fun a₁ w₁ => BlockIs w₁ l (.loop (lrec fn tmps ps assign body D .ready none)) ∧ body.wpIn (Fence.wide.inRound l) m P (roundPost P l R) a₁ (w₁.putObj l (.loop (lrec fn tmps ps assign body D .busy none)))) (fun _ _ _ => False)) { tmps := (ps.zip args).foldl (fun t (p, v) => t.setIfInBounds p v) tmps, defers := [] } W) :
    YieldAt Fence.wide m P l args W R := by
  have hy := run_yield (P := P) (args := args) hl hs
  refine ⟨fn, _, assign, body, hy, roundIn_of_wpIn trivial (wpIn_mono h ?_)⟩
  rintro e a1 w1 hp
  cases e with
  | normal =>
    obtain ⟨hl1, hb⟩ := hp
    exact ⟨_, run_beginRound hl1 rfl, hb⟩
  | _ => exact hp.elim
set_option maxHeartbeats 3200000 in
set_option maxRecDepth 100000 in
theorem draww_c {w : World} {X A L B : Nat} {kk : Int} {sN cv : Nat → Int} {z : Obj} (ok : Int → Bool) (hC : CandAt X A L kk sN cv) (hcv : ∀ i, fit (cv i)) (hX : w.heap[X]? = some (.cells #[.int .u64 (sN 0)] 88)) (hA : w.heap[A]? = some (.cells #[.pointer (some ⟨X, 0, none⟩)] 63)) (hL : w.heap[L]? = some (.cells #[.int .i64 kk] 3)) (hB : w.heap[B]? = some z) (hXB : B ≠ X) (hXA : X ≠ A) (hXL : X ≠ L)
    (hP : ∀ i U, U.heap[B]? = some z → Calls Tryz.prog 67 #[W (cv i), .pointer (some ⟨B, 0, none⟩)] U (Gets (fun _ r => r = .bool (ok (cv i))) U)) :
    Calls Tryz.prog 64 #[.func (.func 65) #[] #[.pointer (some ⟨A, 0, none⟩), .pointer (some ⟨L, 0, none⟩)], .func (.func 67) #[] #[.pointer (some ⟨B, 0, none⟩)]] w (DrawnW X sN cv ok w) := by
  have lX := ltH hX
  have lB := ltH hB
  have lA := ltH hA
  have lL := ltH hL
  refine (callsIn_wide (n := 9)).1 ?_
  refine callsIn_of_wp_marks Tryz.func64 rfl trivial ?_ rfl
  simp only [Tryz.ntmps64, List.size_toArray, List.length_cons, List.length_nil, Nat.reduceAdd, Nat.reduceSub, Array.replicate_succ, Array.replicate_zero, List.push_toArray, List.append_toArray, List.nil_append, List.cons_append]
  refine wpIn_wide.2 ?_
  go_wp2_with fail
  go_step3
  go_wp2_with fail
  go_step3
  go_wp2_with fail
  refine (candsw_c A L).mono ?_
  rintro e w5 ⟨rfl, rfl⟩
  obtain ⟨q3, q4, q5, qT⟩ := heapF w (.cells #[.func (.func 67) #[] #[.pointer (some ⟨B, 0, none⟩)]] 95) (.cells #[.int .u64 0, .int .u64 0, .int .u64 0, .int .u64 0, .int .u64 0, .int .u64 0, .int .u64 0, .int .u64 0] 26) (.cells #[.int .i64 9] 34) (.cells #[.func (.func 65) #[] #[.pointer (some ⟨A, 0, none⟩), .pointer (some ⟨L, 0, none⟩)]] 37)
  have sz : ((((w.alloc (.cells #[.func (.func 67) #[] #[.pointer (some ⟨B, 0, none⟩)]] 95)).alloc (.cells #[.int .u64 0, .int .u64 0, .int .u64 0, .int .u64 0, .int .u64 0, .int .u64 0, .int .u64 0, .int .u64 0] 26)).alloc (.cells #[.int .i64 9] 34)).alloc (.cells #[.func (.func 65) #[] #[.pointer (some ⟨A, 0, none⟩), .pointer (some ⟨L, 0, none⟩)]] 37)).heap.size = w.heap.size + 4 := by simp
  have szT : (((w.alloc (.cells #[.func (.func 67) #[] #[.pointer (some ⟨B, 0, none⟩)]] 95)).alloc (.cells #[.int .u64 0, .int .u64 0, .int .u64 0, .int .u64 0, .int .u64 0, .int .u64 0, .int .u64 0, .int .u64 0] 26)).alloc (.cells #[.int .i64 9] 34)).heap.size = w.heap.size + 3 := by simp
  have hb5 : Below w.heap.size w ((((w.alloc (.cells #[.func (.func 67) #[] #[.pointer (some ⟨B, 0, none⟩)]] 95)).alloc (.cells #[.int .u64 0, .int .u64 0, .int .u64 0, .int .u64 0, .int .u64 0, .int .u64 0, .int .u64 0, .int .u64 0] 26)).alloc (.cells #[.int .i64 9] 34)).alloc (.cells #[.func (.func 65) #[] #[.pointer (some ⟨A, 0, none⟩), .pointer (some ⟨L, 0, none⟩)]] 37)) :=
    ((((Below.refl _ w).alloc (Nat.le_refl _) _).alloc (by simp) _).alloc (by simp; omega) _).alloc (by simp; omega) _
  rw [szT]
  generalize ((((w.alloc (.cells #[.func (.func 67) #[] #[.pointer (some ⟨B, 0, none⟩)]] 95)).alloc (.cells #[.int .u64 0, .int .u64 0, .int .u64 0, .int .u64 0, .int .u64 0, .int .u64 0, .int .u64 0, .int .u64 0] 26)).alloc (.cells #[.int .i64 9] 34)).alloc (.cells #[.func (.func 65) #[] #[.pointer (some ⟨A, 0, none⟩), .pointer (some ⟨L, 0, none⟩)]] 37)) = w5 at *
  have hX5 := keepH hX hb5
  have hB5 := keepH hB hb5
  have hA5 := keepH hA hb5
  have hL5 := keepH hL hb5
  have hb6 := hb5
  clear hb5
  clear hX hB hA hL szT
  have hnN : w.heap.size ≤ w5.heap.size := by rw [sz]; omega
  generalize hN : w.heap.size = N at *
  go_wp2_with fail
  rename_i hKr
  refine range_wide (gf := 95) (lb := #[.pointer (some ⟨N + 3, 0, none⟩)]) rfl (enters_of Tryz.func95 (by kernel_rfl) rfl) ?_
  intro fn rc hrc
  have k0 := fun o o' => (MapKept.heap_alloc (w5.alloc o) o').1
  have k1 := fun o => (MapKept.heap_alloc w5 o).1
  have b1 := fun o => (Below.refl w5.heap.size w5).alloc (Nat.le_refl _) o
  have b2 := fun o o' => (Below.refl (w5.alloc o).heap.size (w5.alloc o)).alloc (Nat.le_refl _) o'
  have sz1 : ∀ o, (w5.alloc o).heap.size = N + 5 := fun o => by simp [sz]
  simp only [sz1] at k0
  rw [sz] at k1
  have hd0 : DW w X N B z rc .ready none 0 0 0 0 0 0 0 0 9 ((w5.alloc (.deferred (some []))).alloc (.loop (rc .ready none))) :=
    ⟨keepH (keepH q3 (b1 _)) (b2 _ _), keepH (keepH q4 (b1 _)) (b2 _ _), keepH (keepH q5 (b1 _)) (b2 _ _), keepH (keepH hB5 (b1 _)) (b2 _ _), k0 _ _, keepH (k1 _) (b2 _ _), But.of (by rw [hN]; exact (hb6.trans ((b1 _).mono hnN)).trans ((b2 _ _).mono (by rw [sz1]; omega)))⟩
  have hX6 := keepH (keepH hX5 (b1 _)) (b2 (.deferred (some [])) (.loop (rc .ready none)))
  have hT6 := keepH (keepH qT (b1 _)) (b2 (.deferred (some [])) (.loop (rc .ready none)))
  have hA6 := keepH (keepH hA5 (b1 _)) (b2 (.deferred (some [])) (.loop (rc .ready none)))
  have hL6 := keepH (keepH hL5 (b1 _)) (b2 (.deferred (some [])) (.loop (rc .ready none)))
  clear k0 k1 b1 b2 sz1 q3 q4 q5 qT hb6 hX5 hB5 hA5 hL5
  have hend : ∀ W jump, W.heap[N + 5]? = some (.loop (rc .busy none)) → (Instr.endRound (N + 5) jump).run Tryz.prog W = .ok (.bool jump.isNone) (W.putObj (N + 5) (.loop (rc (if jump.isNone then .ready else .done) jump))) := by
    rw [hrc]; intro W jump h; exact run_endRound jump h
  have hstop : ∀ W st pe, st ≠ .busy → W.heap[N + 5]? = some (.loop (rc st pe)) → (Instr.endLoop (N + 5)).run Tryz.prog W = .ok pe (W.putObj (N + 5) (.loop (rc .exhausted pe))) := by
    rw [hrc]; intro W st pe hb h; exact run_endLoop h hb
  have Hrc := Lib.hid hrc
  have Hend := Lib.hid hend
  have Hstop := Lib.hid hstop
  clear hrc hend hstop
  simp only [sz]
  refine (candw_in (N + 5) (N + 3) X A L kk sN cv hC (fun i W => (∀ j, j < i → ok (cv j) = false) ∧ DW w X N B z rc .ready none 0 0 0 0 0 0 0 0 9 W)
    (fun i U => ∃ (k : Nat) (a0 a1 a2 a3 a4 a5 a6 a7 : Int), i = k + 1 ∧ (∀ j, j < k → ok (cv j) = false) ∧ ok (cv k) = true ∧ W (cv k) = .agg #[.int .u64 a0, .int .u64 a1, .int .u64 a2, .int .u64 a3, .int .u64 a4, .int .u64 a5, .int .u64 a6, .int .u64 a7] ∧ U.heap[X]? = some (.cells #[.int .u64 (sN (k + 1))] 88) ∧ DW w X N B z rc .done (some (.exit 0)) a0 a1 a2 a3 a4 a5 a6 a7 0 U)
    ?hJs ?hY _ (by omega) hXA hXL hT6 hA6 hL6 hX6 ⟨fun j h => absurd h (by omega), hd0⟩).mono ?fin
  case hJs =>
    rintro i U U' ⟨h1, h2⟩ hb
    exact ⟨h1, h2.setX hb lX hXB⟩
  case hY =>
    rintro i U ⟨hno, hd⟩ hXi hi
    obtain ⟨a0, a1, a2, a3, a4, a5, a6, a7, -, -, he⟩ := words_of (hcv i)
    suffices hS : ∀ R : Ending → World → Prop, (∀ U', ((∀ j, j < i + 1 → ok (cv j) = false) ∧ DW w X N B z rc .ready none 0 0 0 0 0 0 0 0 9 U') → (∀ b, b = X ∨ b = N + 3 ∨ b = A ∨ b = L → U'.heap[b]? = U.heap[b]?) → R (.returned (.bool true)) U') →
        (∀ U', (∃ (k : Nat) (a0 a1 a2 a3 a4 a5 a6 a7 : Int), i + 1 = k + 1 ∧ (∀ j, j < k → ok (cv j) = false) ∧ ok (cv k) = true ∧ W (cv k) = .agg #[.int .u64 a0, .int .u64 a1, .int .u64 a2, .int .u64 a3, .int .u64 a4, .int .u64 a5, .int .u64 a6, .int .u64 a7] ∧ U'.heap[X]? = some (.cells #[.int .u64 (sN (k + 1))] 88) ∧ DW w X N B z rc .done (some (.exit 0)) a0 a1 a2 a3 a4 a5 a6 a7 0 U') → R (.returned (.bool false)) U') →
        YieldAt Fence.wide 3 Tryz.prog (N + 5) #[W (cv i)] U R from
      hS _ (fun U' h1 h2 => Or.inl ⟨rfl, h1, h2⟩) (fun U' h => Or.inr ⟨rfl, h⟩)
    intro R hR1 hR2
    have HR1 := Lib.hid hR1
    have HR2 := Lib.hid hR2
    clear hR1 hR2
    have hl := hd.pl
    rw [Hrc.out] at hl
    have hkeep : ∀ b, b = X ∨ b = N + 3 ∨ b = A ∨ b = L → b < N + 5 := by omega
    have hsz : N + 5 < U.heap.size := ltH hd.pl
    have hp := fun V hV => hP i V hV
    rw [he] at hp
    rw [he]
    have HE := Lib.hid he
    clear he
    refine yield_wide2 hl rfl ?_
    rw [← Hrc.out]
    have al := fun o => (Below.refl U.heap.size U).alloc (Nat.le_refl _) o
    have hU1 := fun o => hd.keep (W' := U.alloc o) (by omega) (al o)
    have kN := fun o => (MapKept.heap_alloc U o).1
    have eU1 := fun o (b : Nat) (hb : b < U.heap.size) => (al o).block b hb
    have hw8 : (Value.agg #[.int .u64 a0, .int .u64 a1, .int .u64 a2, .int .u64 a3, .int .u64 a4, .int .u64 a5, .int .u64 a6, .int .u64 a7]) = .agg #[.int .u64 a0, .int .u64 a1, .int .u64 a2, .int .u64 a3, .int .u64 a4, .int .u64 a5, .int .u64 a6, .int .u64 a7] := rfl
    clear hw8
    gi_wp2
    refine ⟨(hU1 _).pl, ?_⟩
    have hU1 := hU1 (.cells #[.int .u64 a0, .int .u64 a1, .int .u64 a2, .int .u64 a3, .int .u64 a4, .int .u64 a5, .int .u64 a6, .int .u64 a7] 26)
    have kN := kN (.cells #[.int .u64 a0, .int .u64 a1, .int .u64 a2, .int .u64 a3, .int .u64 a4, .int .u64 a5, .int .u64 a6, .int .u64 a7] 26)
    have eU1 := eU1 (.cells #[.int .u64 a0, .int .u64 a1, .int .u64 a2, .int .u64 a3, .int .u64 a4, .int .u64 a5, .int .u64 a6, .int .u64 a7] 26)
    generalize U.alloc (.cells #[.int .u64 a0, .int .u64 a1, .int .u64 a2, .int .u64 a3, .int .u64 a4, .int .u64 a5, .int .u64 a6, .int .u64 a7] 26) = U1 at *
    have hd1 := hU1.put lB (by omega) .busy none
    have eU0 : ∀ b, b ≠ N + 5 → (U1.putObj (N + 5) (.loop (rc .busy none))).heap[b]? = U1.heap[b]? := fun b hb => World.putObj_heap_other hb
    have kN := (eU0 _ (by omega)).trans kN
    have hX1 : (U1.putObj (N + 5) (.loop (rc .busy none))).heap[X]? = some (.cells #[.int .u64 (sN (i + 1))] 88) := ((eU0 X (by omega)).trans (eU1 X (by omega))).trans hXi
    have eB : ∀ b, b < N + 5 → (U1.putObj (N + 5) (.loop (rc .busy none))).heap[b]? = U.heap[b]? := fun b hb => (eU0 b (by omega)).trans (eU1 b (by omega))
    generalize U1.putObj (N + 5) (.loop (rc .busy none)) = Wb at *
    have c3 : Wb.cell? ⟨N, 0, none⟩ = some (.func (.func 67) #[] #[.pointer (some ⟨B, 0, none⟩)]) := (cellOf hd1.p3).trans rfl
    obtain ⟨x0, x1, x2, x3, x4, x5, x6, x7⟩ := eightC kN
    have HkN := Lib.hid kN
    generalize hM : U.heap.size = M at *
    clear hU1 eU0 eU1 al kN hM
    cases hok : ok (cv i) with
    | false =>
      gi_wp2
      refine ⟨True.intro, (CallsIn.inRound (N + 5) (callsIn_wide.2 (hp _ hd1.pb))).mono ?_⟩
      rintro e W4 ⟨r, rfl, rfl, hb⟩
      rw [hok]
      have hd4 := hd1.keep (by omega) hb
      have hK4 : ∀ b, b < N + 5 → W4.heap[b]? = U.heap[b]? := fun b hb' => (hb.block b (by have := ltH hd1.pl; omega)).trans (eB b hb')
      have HK := Lib.hid hK4
      clear hd1 hX1 c3 hb hd hl hXi eB hK4 x0 x1 x2 x3 x4 x5 x6 x7
      gi_wp2
      refine ⟨_, _, Hend.out W4 none hd4.pl, HR1.out _ ⟨fun j hj => ?_, hd4.put lB (by omega) .ready none⟩ (fun b hb => ?_)⟩
      · by_cases hji : j = i
        · subst hji; exact hok
        · exact hno j (by omega)
      · have hb5 := hkeep b hb
        exact (World.putObj_heap_other (by omega)).trans (HK.out b hb5)
    | true =>
      gi_wp2
      refine ⟨True.intro, (CallsIn.inRound (N + 5) (callsIn_wide.2 (hp _ hd1.pb))).mono ?_⟩
      rintro e W4 ⟨r, rfl, rfl, hb⟩
      rw [hok]
      have hd4 := hd1.keep (by omega) hb
      have hX4 := keepH hX1 hb
      have hM4 := keepH HkN.out hb
      obtain ⟨x0, x1, x2, x3, x4, x5, x6, x7⟩ := eightC hM4
      obtain ⟨z0, z1, z2, z3, z4, z5, z6, z7⟩ := eightC hd4.p4
      have e5 : W4.cell? ⟨N + 1 + 1, 0, none⟩ = some (.int .i64 9) := (cellOf hd4.p5).trans rfl
      have g4 : ∀ j, W4.frozen? ⟨N + 1, j, none⟩ = false := fun j => frozenOf hd4.p4
      have g5 : W4.frozen? ⟨N + 1 + 1, 0, none⟩ = false := frozenOf hd4.p5
      have hd5 := hd4.take lB (by omega) a0 a1 a2 a3 a4 a5 a6 a7 0
      have hX5 := ((Go.Proofs.YtfeapgpjchjphaaGreat.setOther (X := N + 1 + 1) (T := X) (by omega) (.int .i64 0)).trans (heap_set8 (W := W4) (T := X) (B := N + 1) (by omega) (.int .u64 a0) (.int .u64 a1) (.int .u64 a2) (.int .u64 a3) (.int .u64 a4) (.int .u64 a5) (.int .u64 a6) (.int .u64 a7))).trans hX4
      have HX5 := Lib.hid hX5
      clear hd1 hX1 c3 hb hd hl hXi eB hX4 hd4 hM4 HkN hX5
      gi_wp2
      exact ⟨_, _, Hend.out _ (some (.exit 0)) hd5.pl, HR2.out _ ⟨i, a0, a1, a2, a3, a4, a5, a6, a7, rfl, hno, hok, HE.out, (World.putObj_heap_other (by omega)).trans HX5.out, hd5.put lB (by omega) .done (some (.exit 0))⟩⟩
  case fin =>
    rintro e W2 ⟨⟨v, rfl⟩, ⟨hno, hd⟩ | ⟨i, hi, k, a0, a1, a2, a3, a4, a5, a6, a7, hk, hno, hok, he, hX2, hd⟩⟩
    · refine ⟨none, _, Hstop.out _ _ _ (by decide) hd.pl, ?_⟩
      have hd2 := hd.put lB (by omega) .exhausted none
      generalize W2.putObj (N + 5) (.loop (rc .exhausted none)) = W3 at *
      refine hKr _ _ ?_
      clear hKr hd hd0 hT6 hX6 hA6 hL6
      go_wp2
      refine draww_r6 hd2 _ _ _ _ _ _ _ _ _ _ _ _ _ _ _ _ _ ?_
      have hd4 : DW w X N B z rc .exhausted none 0 0 0 0 0 0 0 0 9 W3.drew := ⟨hd2.p3, hd2.p4, hd2.p5, hd2.pb, hd2.pl, hd2.pd, But.drew hd2.bel⟩
      clear hd2
      generalize W3.drew = W4 at *
      rename_i hKr2
      refine hKr2 _ _ ?_
      clear hKr2
      go_wp2
      obtain ⟨c4, c5, hb⟩ := hd4.shut (by omega)
      obtain ⟨y0, y1, y2, y3, y4, y5, y6, y7⟩ := eightC c4
      refine ⟨by simp, .inl ⟨_, _, rfl, run_takeDeferred hd4.pd, ?_⟩⟩
      exact ⟨.tuple #[.agg #[.int .u64 0, .int .u64 0, .int .u64 0, .int .u64 0, .int .u64 0, .int .u64 0, .int .u64 0, .int .u64 0], .int .i64 9], by simp [results, Tryz.results64, go_sem, y0, y1, y2, y3, y4, y5, y6, y7, c5], hb, .inr ⟨hno, rfl⟩⟩
    · obtain rfl : i = k := by omega
      refine ⟨some (.exit 0), _, Hstop.out _ _ _ (by decide) hd.pl, ?_⟩
      have hd2 := hd.put lB (by omega) .exhausted (some (.exit 0))
      have hX3 : (W2.putObj (N + 5) (.loop (rc .exhausted (some (.exit 0))))).heap[X]? = some (.cells #[.int .u64 (sN (i + 1))] 88) := (World.putObj_heap_other (by omega)).trans hX2
      generalize W2.putObj (N + 5) (.loop (rc .exhausted (some (.exit 0)))) = W3 at *
      refine wpIn_wide.2 ?_
      clear hX2 hd hd0 hT6 hX6 hA6 hL6
      have HN := Lib.hid hno
      have HO := Lib.hid hok
      have HE := Lib.hid he
      clear hno hok he
      go_wp2
      refine draww_r6 hd2 _ _ _ _ _ _ _ _ _ _ _ _ _ _ _ _ _ ?_
      have hd4 : DW w X N B z rc .exhausted (some (.exit 0)) a0 a1 a2 a3 a4 a5 a6 a7 0 W3.drew := ⟨hd2.p3, hd2.p4, hd2.p5, hd2.pb, hd2.pl, hd2.pd, But.drew hd2.bel⟩
      have hX3 : W3.drew.heap[X]? = _ := hX3
      clear hd2
      generalize W3.drew = W4 at *
      rename_i hKr2
      refine hKr2 _ _ ?_
      clear hKr2
      go_wp2
      obtain ⟨c4, c5, hb⟩ := hd4.shut (by omega)
      obtain ⟨y0, y1, y2, y3, y4, y5, y6, y7⟩ := eightC c4
      have hX4 := (World.putObj_heap_other (w := W4) (r := N + 4) (o := .deferred none) (k := X) (by omega)).trans hX3
      refine ⟨by simp, .inl ⟨_, _, rfl, run_takeDeferred hd4.pd, ?_⟩⟩
      exact ⟨.tuple #[.agg #[.int .u64 a0, .int .u64 a1, .int .u64 a2, .int .u64 a3, .int .u64 a4, .int .u64 a5, .int .u64 a6, .int .u64 a7], .int .i64 0], by simp [results, Tryz.results64, go_sem, y0, y1, y2, y3, y4, y5, y6, y7, c5], hb, .inl ⟨i, hi, HN.out, HO.out, by rw [HE.out], hX4⟩⟩
end Go.Proofs.YtfeapgpjchjphaaGreat
