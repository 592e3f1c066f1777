/-
  Wide random numbers: what source.wide hands back.
  Wide random numbers: withState.
  Wide random numbers: Wide of the program.
-/
import Derived.Test.YtfeapgpjchjphaaGreatMWH
set_option linter.all false
namespace Go.Proofs.YtfeapgpjchjphaaGreat
open Go Go.Rx Go.RowKit Go.Big Go.Shelf
attribute [local instance] noAv
/-- The state ahead of candidate i. -/
def sNs (k : Nat) (s : Int) (i : Nat) : Int := stN (nd k * i) s
/-- Candidate i. -/
def cNs (k : Nat) (s : Int) (i : Nat) : Int := candV k (sNs k s i)
theorem sNs_next (k : Nat) (s : Int) (i : Nat) : stN (nd k) (sNs k s i) = sNs k s (i + 1) := by
  unfold sNs
  rw [← stN_add, Nat.mul_succ]
/-- What source.wide hands back. -/
def SWideP (X : Nat) (s x : Int) (w : World) (e : Ending) (w' : World) : Prop :=
  w.grownBy w' (some X) ∧ ∃ k : Nat, k ≤ 511 ∧ IsLen k (x - 1) ∧ ((∃ i, i < 200 ∧ (∀ j, j < i → ¬ cNs k s j < x) ∧ cNs k s i < x ∧ e = .returned (.tuple #[W (cNs k s i), .int .i64 0]) ∧ w'.heap[X]? = some (.cells #[.int .u64 (sNs k s (i + 1))] 88))
    ∨ ((∀ j, j < 200 → ¬ cNs k s j < x) ∧ e = .returned (.tuple #[.agg #[.int .u64 0, .int .u64 0, .int .u64 0, .int .u64 0, .int .u64 0, .int .u64 0, .int .u64 0, .int .u64 0], .int .i64 9])))
theorem pred_facts {x : Int} (hx : fit x) (h1 : 1 ≤ x) : fit (x - 1) ∧ 0 ≤ x - 1 ∧ x - 1 < (2 : Int) ^ 511 := by
  have e511 : (2 : Int) ^ 511 = 6703903964971298549787012499102923063739682910296196688861780721860882015036773488400937149083451713845015929093243025426876941405973284973216824503042048 := by decide +kernel
  unfold fit P511 at *
  omega
set_option maxHeartbeats 3200000 in
set_option maxRecDepth 100000 in
theorem swide_c {w : World} {X : Nat} {s x : Int} (hX : w.heap[X]? = some (.cells #[.int .u64 s] 88)) (hx : fit x) (h1 : 1 ≤ x) :
    Calls Tryz.prog 38 #[.pointer (some ⟨X, 0, none⟩), W x] w (SWideP X s x w) := by
  obtain ⟨b0, b1, b2, b3, b4, b5, b6, b7, -, -, he⟩ := words_of hx
  obtain ⟨hy, hy0, hy1⟩ := pred_facts hx h1
  obtain ⟨g0, g1, g2, g3, g4, g5, g6, g7, -, -, hg⟩ := words_of hy
  have hdig := fun U => cdigits_c (w := U) hy0 hy
  rw [hg] at hdig
  have hwide2 := fun (U : World) (y : Int) (hyf : fit y) (N : Nat) (hN : U.heap[N]? = some (.cells #[.int .u64 b0, .int .u64 b1, .int .u64 b2, .int .u64 b3, .int .u64 b4, .int .u64 b5, .int .u64 b6, .int .u64 b7] 26)) => wide2_c (w := U) (N := N) hyf hx ⟨b0, b1, b2, b3, b4, b5, b6, b7, he, hN⟩
  have hr1 := fun U T hT => swide_r1 (W := U) (T := T) hx hy he hg hT
  rw [he]
  have Hy1 := Lib.hid hy1
  have Hx1 := Lib.hid h1
  clear he hg hy hy0 hy1 h1 hx
  have lX := ltH hX
  have h3 := fun o1 o2 o3 => heap3 w o1 o2 o3
  have bel := fun o1 o2 o3 => (((Below.refl w.heap.size w).alloc (Nat.le_refl _) o1).alloc (by simp) o2).alloc (by simp; omega) o3
  have sz : ∀ o1 o2 o3, (((w.alloc o1).alloc o2).alloc o3).heap.size = w.heap.size + 3 := fun o1 o2 o3 => by simp
  go_enter Tryz.func38, Tryz.ntmps38
  go_wp2_with fail
  rename_i hK
  obtain ⟨q0, q1, q2⟩ := h3 (.cells #[.pointer (some ⟨X, 0, none⟩)] 63) (.cells #[.int .u64 b0, .int .u64 b1, .int .u64 b2, .int .u64 b3, .int .u64 b4, .int .u64 b5, .int .u64 b6, .int .u64 b7] 26) (.cells #[.int .u64 0, .int .u64 0, .int .u64 0, .int .u64 0, .int .u64 0, .int .u64 0, .int .u64 0, .int .u64 0] 26)
  have bel := bel (.cells #[.pointer (some ⟨X, 0, none⟩)] 63) (.cells #[.int .u64 b0, .int .u64 b1, .int .u64 b2, .int .u64 b3, .int .u64 b4, .int .u64 b5, .int .u64 b6, .int .u64 b7] 26) (.cells #[.int .u64 0, .int .u64 0, .int .u64 0, .int .u64 0, .int .u64 0, .int .u64 0, .int .u64 0, .int .u64 0] 26)
  have sz := sz (.cells #[.pointer (some ⟨X, 0, none⟩)] 63) (.cells #[.int .u64 b0, .int .u64 b1, .int .u64 b2, .int .u64 b3, .int .u64 b4, .int .u64 b5, .int .u64 b6, .int .u64 b7] 26) (.cells #[.int .u64 0, .int .u64 0, .int .u64 0, .int .u64 0, .int .u64 0, .int .u64 0, .int .u64 0, .int .u64 0] 26)
  generalize (((w.alloc (.cells #[.pointer (some ⟨X, 0, none⟩)] 63)).alloc (.cells #[.int .u64 b0, .int .u64 b1, .int .u64 b2, .int .u64 b3, .int .u64 b4, .int .u64 b5, .int .u64 b6, .int .u64 b7] 26)).alloc (.cells #[.int .u64 0, .int .u64 0, .int .u64 0, .int .u64 0, .int .u64 0, .int .u64 0, .int .u64 0, .int .u64 0] 26)) = w1 at *
  have hX1 := keepH hX bel
  clear hX h3
  refine hr1 _ _ q1 _ _ _ _ _ _ _ _ _ _ _ _ _ _ _ _ _ _ _ _ _ _ _ _ ?_
  intro B6 v9 v10 v11 v12 v13 w2 hb2 hB6 h6
  have q0 := keepH q0 hb2
  have q1 := keepH q1 hb2
  have q2 := keepH q2 hb2
  have hX2 := keepH hX1 hb2
  have bel := bel.trans (hb2.mono (by omega))
  have l2 := hb2.size
  clear hX1 hb2 hr1
  refine hK _ _ ?_
  clear hK
  obtain ⟨x0, x1, x2, x3, x4, x5, x6, x7⟩ := eightC h6
  go_wp2_with fail
  refine (hdig _).mono ?_
  rintro e w3 ⟨r, rfl, ⟨k, rfl, hk5, hlen⟩, hb3⟩
  have q0 := keepH q0 hb3
  have q1 := keepH q1 hb3
  have q2 := keepH q2 hb3
  have hX3 := keepH hX2 hb3
  have bel := bel.trans (hb3.mono (by omega))
  have l3 := hb3.size
  have al := (Below.refl w3.heap.size w3).alloc (Nat.le_refl _) (.cells #[.int .i64 (k : Int)] 3)
  have qL := (MapKept.heap_alloc w3 (.cells #[.int .i64 (k : Int)] 3)).1
  have q0 := keepH q0 al
  have q1 := keepH q1 al
  have q2 := keepH q2 al
  have hX4 := keepH hX3 al
  have bel := bel.trans (al.mono (by omega))
  have hk511 : k ≤ 511 := isLen_le hlen Hy1.out
  have hlX : X < w3.heap.size := ltH hX3
  have hcv : ∀ i, fit (cNs k s i) := fun i => (codeW_W hk511 (sNs k s i)).2
  have hC : CandAt X w.heap.size w3.heap.size (k : Int) (sNs k s) (cNs k s) := fun i U hUX hUA hUL =>
    (wide1_c hUA hUL hUX hk511).mono fun e W' he => by
      obtain ⟨e1, e2, e3⟩ := he
      rw [sNs_next] at e2
      exact ⟨e1, e2, e3⟩
  have hd := fun U (h0 : U.heap[X]? = some (.cells #[.int .u64 (sNs k s 0)] 88)) hA hL hB => draww_c (w := U) (B := w.heap.size + 1) (z := .cells #[.int .u64 b0, .int .u64 b1, .int .u64 b2, .int .u64 b3, .int .u64 b4, .int .u64 b5, .int .u64 b6, .int .u64 b7] 26) (fun y => decide (y < x)) hC hcv h0 hA hL hB (by omega) (by omega) (by omega) (fun i V hV => hwide2 V (cNs k s i) (hcv i) _ hV)
  have hx0 : sNs k s 0 = s := by unfold sNs; rw [Nat.mul_zero]; rfl
  rw [hx0] at hd
  have Hlen := Lib.hid hlen
  have Hk := Lib.hid hk511
  have HB := Lib.hid bel
  have xX : X ≠ w.heap.size + 1 + 1 := by omega
  clear hb3 hdig hwide2 hX2 hX3 x0 x1 x2 x3 x4 x5 x6 x7 h6 hC hcv hlen hk511 bel al
  go_wp2_with fail
  refine (hd _ hX4 q0 qL q1).mono ?_
  have q2H := Lib.hid q2
  clear q0 q1 q2 qL hX4 hd
  rintro e w5 ⟨hb5, ⟨i, hi, hno, hok, rfl, hX5⟩ | ⟨hno, rfl⟩⟩
  · obtain ⟨a0, a1, a2, a3, a4, a5, a6, a7, -, -, he⟩ := words_of (codeW_W Hk.out (sNs k s i)).2
    have he : W (cNs k s i) = _ := he
    have HE := Lib.hid he
    rw [he]
    have q2 := (hb5.block (w.heap.size + 1 + 1) (ltH q2H.out) (fun e => xX (Option.some.inj e).symm)).trans q2H.out
    have but := But.trans (But.of (r := some X) HB.out) hb5
    obtain ⟨y0, y1, y2, y3, y4, y5, y6, y7⟩ := eightC q2
    have fz : ∀ j, w5.frozen? ⟨w.heap.size + 1 + 1, j, none⟩ = false := fun j => frozenOf q2
    have hfin := fun u0 u1 u2 u3 u4 u5 u6 u7 => But.set8 but (B := w.heap.size + 1 + 1) (by omega) u0 u1 u2 u3 u4 u5 u6 u7
    have hX8 := fun u0 u1 u2 u3 u4 u5 u6 u7 => (heap_set8 (W := w5) (T := X) (B := w.heap.size + 1 + 1) xX u0 u1 u2 u3 u4 u5 u6 u7).trans hX5
    have HN := Lib.hid (fun j (hj : j < i) => of_decide_eq_false (hno j hj))
    have HO := Lib.hid (of_decide_eq_true hok)
    clear he hno hok hb5 hX5 q2 but q2H HB
    go_wp2
    exact bodyPost_ret (v := .tuple #[.agg #[.int .u64 a0, .int .u64 a1, .int .u64 a2, .int .u64 a3, .int .u64 a4, .int .u64 a5, .int .u64 a6, .int .u64 a7], .int .i64 0]) (by simp [results, Tryz.results38, go_sem, y0, y1, y2, y3, y4, y5, y6, y7]) rfl ⟨hfin _ _ _ _ _ _ _ _, k, Hk.out, Hlen.out, .inl ⟨i, hi, fun j hj => Int.not_lt.2 (HN.out j hj), HO.out, by rw [HE.out], hX8 _ _ _ _ _ _ _ _⟩⟩
  · have q2 := (hb5.block (w.heap.size + 1 + 1) (ltH q2H.out) (fun e => xX (Option.some.inj e).symm)).trans q2H.out
    have but := But.trans (But.of (r := some X) HB.out) hb5
    obtain ⟨y0, y1, y2, y3, y4, y5, y6, y7⟩ := eightC q2
    have fz : ∀ j, w5.frozen? ⟨w.heap.size + 1 + 1, j, none⟩ = false := fun j => frozenOf q2
    have hfin := fun u0 u1 u2 u3 u4 u5 u6 u7 => But.set8 but (B := w.heap.size + 1 + 1) (by omega) u0 u1 u2 u3 u4 u5 u6 u7
    have HN := Lib.hid (fun j (hj : j < 200) => of_decide_eq_false (hno j hj))
    clear hno hb5 q2 but q2H HB
    go_wp2
    exact bodyPost_ret (v := .tuple #[.agg #[.int .u64 0, .int .u64 0, .int .u64 0, .int .u64 0, .int .u64 0, .int .u64 0, .int .u64 0, .int .u64 0], .int .i64 9]) (by simp [results, Tryz.results38, go_sem, y0, y1, y2, y3, y4, y5, y6, y7]) rfl ⟨hfin _ _ _ _ _ _ _ _, k, Hk.out, Hlen.out, .inr ⟨fun j hj => Int.not_lt.2 (HN.out j hj), rfl⟩⟩
end Go.Proofs.YtfeapgpjchjphaaGreat
namespace Go.Proofs.YtfeapgpjchjphaaGreat
open Go Go.Rx Go.RowKit Go.Big Go.Shelf
attribute [local instance] noAv
noncomputable def wsR3 : Code := ((Tryz.f39.body.bind (findRs 3)).getD .skip)
noncomputable def wsR2 : Code := ((Tryz.f39.body.bind (findRs 2)).getD .skip)
set_option maxHeartbeats 1600000 in
set_option maxRecDepth 100000 in
theorem ws_r2 {W : World} {M : Nat} {e : Int} (h6 : W.heap[M]? = some (.cells #[.int .u64 0, .int .u64 0, .int .u64 0, .int .u64 0, .int .u64 0, .int .u64 0, .int .u64 0, .int .u64 0] 26)) (h7 : W.heap[M + 1]? = some (.cells #[.int .u64 0] 24))
    (c0 c1 c3 c4 c5 c8 c9 c10 u11 u12 u13 c14 c15 c16 c17 c18 c19 : Value) (ds : List Deferred) (K' : Act → World → Prop) (Q' : Exit → Act → World → Prop)
    (hKK : ∀ v11 v12 v13, K' ⟨#[c0, c1, .int .i64 e, c3, c4, c5, .pointer (some ⟨M, 0, none⟩), .pointer (some ⟨M + 1, 0, none⟩), .int .i64 e, c9, c10, v11, v12, v13, c14, c15, c16, c17, c18, c19], ds⟩ W.drew) :
    Code.wp Tryz.prog wsR2 (Exit.then K' Q') ⟨#[c0, c1, .int .i64 e, c3, c4, c5, .pointer (some ⟨M, 0, none⟩), .pointer (some ⟨M + 1, 0, none⟩), c8, c9, c10, u11, u12, u13, c14, c15, c16, c17, c18, c19], ds⟩ W := by
  have h6 : W.drew.heap[M]? = some (.cells #[.int .u64 0, .int .u64 0, .int .u64 0, .int .u64 0, .int .u64 0, .int .u64 0, .int .u64 0, .int .u64 0] 26) := h6
  have h7 : W.drew.heap[M + 1]? = some (.cells #[.int .u64 0] 24) := h7
  conv => arg 2; whnf
  refine wp_region_noPanic ?_
  refine wp_region_held_drew (S := fun w' => w' = W.drew) (by kernel_rfl) rfl (fun hHeld => ?_)
  generalize W.drew = V at *
  have hr : V.rangeAt M 0 [.int .u64 0, .int .u64 0, .int .u64 0, .int .u64 0, .int .u64 0, .int .u64 0, .int .u64 0, .int .u64 0] := fun j v hj => by rw [Nat.zero_add, cellOf h6, List.getElem?_toArray]; exact hj
  refine' wpAnyH_take (i := 0) (oi := _) (v := _) rfl (by kernel_rfl) (by kernel_rfl) (by kernel_rfl) (fun _ _ _ h => h)
    (yieldsIf_load_mid (by rfl) _ _ rfl M 0 rfl [.int .u64 0, .int .u64 0, .int .u64 0, .int .u64 0, .int .u64 0, .int .u64 0, .int .u64 0, .int .u64 0] _ (fun _ h => by rw [h]; exact hr) Tryz.underlying26 rfl (by kernel_rfl)) rfl ?_
  try simp only [Act.put, List.setIfInBounds_toArray, List.set_cons_zero, List.set_cons_succ]
  clear hr
  obtain ⟨x0, x1, x2, x3, x4, x5, x6, x7⟩ := eightC h6
  have fz : ∀ j, V.frozen? ⟨M, j, none⟩ = false := fun j => frozenOf h6
  have c7 : V.cell? ⟨M + 1, 0, none⟩ = some (.int .u64 0) := (cellOf h7).trans rfl
  have f7 : V.frozen? ⟨M + 1, 0, none⟩ = false := frozenOf h7
  have s0 := setCell_id (i := 0) (v := .int .u64 0) h6 rfl
  have s1 := setCell_id (i := 1) (v := .int .u64 0) h6 rfl
  have s2 := setCell_id (i := 2) (v := .int .u64 0) h6 rfl
  have s3 := setCell_id (i := 3) (v := .int .u64 0) h6 rfl
  have s4 := setCell_id (i := 4) (v := .int .u64 0) h6 rfl
  have s5 := setCell_id (i := 5) (v := .int .u64 0) h6 rfl
  have s6 := setCell_id (i := 6) (v := .int .u64 0) h6 rfl
  have s7 := setCell_id (i := 7) (v := .int .u64 0) h6 rfl
  have s8 := setCell_id (i := 0) (v := .int .u64 0) h7 rfl
  clear h6 h7
  refine wpAnyH_take (i := 1) (oi := _) (v := ?_) rfl (by kernel_rfl) (by kernel_rfl) (by kernel_rfl) (fun _ _ _ h => h) (Or.inl ⟨by rfl, ?_⟩) (by assumption) ?_
  rotate_left
  · intro U hSw
    subst hSw
    go_simp
    try with_reducible rfl
  try simp only [Act.put, List.setIfInBounds_toArray, List.set_cons_zero, List.set_cons_succ]
  refine wpAnyH_take (i := 2) (oi := _) (v := ?_) rfl (by kernel_rfl) (by kernel_rfl) (by kernel_rfl) (fun _ _ _ h => h) (Or.inl ⟨by rfl, ?_⟩) (by assumption) ?_
  rotate_left
  · intro U hSw
    subst hSw
    go_simp
    try with_reducible rfl
  try simp only [Act.put, List.setIfInBounds_toArray, List.set_cons_zero, List.set_cons_succ]
  refine wpAnyH_ready (rs := [3]) (by kernel_rfl) (by simp) ?_
  refine AllReadyH.cons (o := _) rfl (fun K hK => ?_) AllReadyH.nil
  go_simp
  try rw [s0, s1, s2, s3, s4, s5, s6, s7]
  refine hK.out _ _ rfl (fun hHeld => ?_)
  clear hK K
  try simp only [Act.put, List.setIfInBounds_toArray, List.set_cons_zero, List.set_cons_succ]
  refine wpAnyH_ready (rs := [4]) (by kernel_rfl) (by simp) ?_
  refine AllReadyH.cons (o := _) rfl (fun K hK => ?_) AllReadyH.nil
  go_simp
  try rw [s8]
  refine hK.out _ _ rfl (fun hHeld => ?_)
  clear hK K
  try simp only [Act.put, List.setIfInBounds_toArray, List.set_cons_zero, List.set_cons_succ]
  refine wpAnyH_take (i := 5) (oi := _) (v := ?_) rfl (by kernel_rfl) (by kernel_rfl) (by kernel_rfl) (fun _ _ _ h => h) (Or.inl ⟨by rfl, ?_⟩) (by assumption) ?_
  rotate_left
  · intro U hSw
    subst hSw
    go_simp
    try with_reducible rfl
  try simp only [Act.put, List.setIfInBounds_toArray, List.set_cons_zero, List.set_cons_succ]
  refine wpAnyH_done (by kernel_rfl) ?_ _
  refine NoPanic.normal ?_
  exact hKK _ _ _
set_option maxHeartbeats 1600000 in
set_option maxRecDepth 100000 in
theorem ws_r3 {W : World} {T M X : Nat} {s : Int} {a0 a1 a2 a3 a4 a5 a6 a7 : Int} (hT : W.heap[T]? = some (.cells #[.int .u64 a0, .int .u64 a1, .int .u64 a2, .int .u64 a3, .int .u64 a4, .int .u64 a5, .int .u64 a6, .int .u64 a7] 26)) (hX : W.heap[X]? = some (.cells #[.int .u64 s] 88)) (h6 : W.heap[M]? = some (.cells #[.int .u64 0, .int .u64 0, .int .u64 0, .int .u64 0, .int .u64 0, .int .u64 0, .int .u64 0, .int .u64 0] 26)) (h7 : W.heap[M + 1]? = some (.cells #[.int .u64 0] 24)) (hTM : T ≠ M) (hTN : T ≠ M + 1) (hXM : X ≠ M) (hXN : X ≠ M + 1)
    (c1 c2 c3 c5 c8 c9 c10 c11 c12 c13 u14 u15 u16 u17 u18 u19 : Value) (ds : List Deferred) (K' : Act → World → Prop) (Q' : Exit → Act → World → Prop)
    (hKK : ∀ v14 v15 v16 v17 v18 v19 U, U.heap[M]? = some (.cells #[.int .u64 a0, .int .u64 a1, .int .u64 a2, .int .u64 a3, .int .u64 a4, .int .u64 a5, .int .u64 a6, .int .u64 a7] 26) → U.heap[M + 1]? = some (.cells #[.int .u64 s] 24) → (∀ n w0, Below n w0 W → n ≤ M → Below n w0 U) → K' ⟨#[.pointer (some ⟨X, 0, none⟩), c1, c2, c3, .pointer (some ⟨T, 0, none⟩), c5, .pointer (some ⟨M, 0, none⟩), .pointer (some ⟨M + 1, 0, none⟩), .int .i64 0, c9, c10, c11, c12, c13, v14, v15, v16, v17, v18, v19], ds⟩ U) :
    Code.wp Tryz.prog wsR3 (Exit.then K' Q') ⟨#[.pointer (some ⟨X, 0, none⟩), c1, c2, c3, .pointer (some ⟨T, 0, none⟩), c5, .pointer (some ⟨M, 0, none⟩), .pointer (some ⟨M + 1, 0, none⟩), c8, c9, c10, c11, c12, c13, u14, u15, u16, u17, u18, u19], ds⟩ W := by
  have hT : W.drew.heap[T]? = some (.cells #[.int .u64 a0, .int .u64 a1, .int .u64 a2, .int .u64 a3, .int .u64 a4, .int .u64 a5, .int .u64 a6, .int .u64 a7] 26) := hT
  have hX : W.drew.heap[X]? = some (.cells #[.int .u64 s] 88) := hX
  have h6 : W.drew.heap[M]? = some (.cells #[.int .u64 0, .int .u64 0, .int .u64 0, .int .u64 0, .int .u64 0, .int .u64 0, .int .u64 0, .int .u64 0] 26) := h6
  have h7 : W.drew.heap[M + 1]? = some (.cells #[.int .u64 0] 24) := h7
  have hB : ∀ n w0, Below n w0 W → Below n w0 W.drew := fun n w0 h => h.drew
  have HKK := Lib.hid hKK
  clear hKK
  conv => arg 2; whnf
  refine wp_region_noPanic ?_
  refine wp_region_held_drew (S := fun w' => w'.heap[T]? = some (.cells #[.int .u64 a0, .int .u64 a1, .int .u64 a2, .int .u64 a3, .int .u64 a4, .int .u64 a5, .int .u64 a6, .int .u64 a7] 26) ∧ w'.heap[X]? = some (.cells #[.int .u64 s] 88)) (by kernel_rfl) ⟨hT, hX⟩ (fun hHeld => ?_)
  generalize W.drew = V at *
  refine' wpAnyH_take (i := 0) (oi := _) (v := _) rfl (by kernel_rfl) (by kernel_rfl) (by kernel_rfl) (fun _ _ _ h => h)
    (yieldsIf_load_mid (by rfl) _ _ rfl T 0 rfl [.int .u64 a0, .int .u64 a1, .int .u64 a2, .int .u64 a3, .int .u64 a4, .int .u64 a5, .int .u64 a6, .int .u64 a7] _ (fun U h j v hj => by rw [Nat.zero_add, cellOf h.1, List.getElem?_toArray]; exact hj) Tryz.underlying26 rfl (by kernel_rfl)) hHeld ?_
  try simp only [Act.put, List.setIfInBounds_toArray, List.set_cons_zero, List.set_cons_succ]
  refine wpAnyH_take (i := 1) (oi := _) (v := ?_) rfl (by kernel_rfl) (by kernel_rfl) (by kernel_rfl) (fun _ _ _ h => h) (Or.inl ⟨by rfl, ?_⟩) (by assumption) ?_
  rotate_left
  · intro U hSw
    have hSw := (cellOf (j := 0) hSw.2).trans (show (#[Value.int .u64 s] : Array Value)[0]? = some (.int .u64 s) from rfl)
    go_simp
    try with_reducible rfl
  try simp only [Act.put, List.setIfInBounds_toArray, List.set_cons_zero, List.set_cons_succ]
  refine wpAnyH_take (i := 2) (oi := _) (v := ?_) rfl (by kernel_rfl) (by kernel_rfl) (by kernel_rfl) (fun _ _ _ h => h) (Or.inl ⟨by rfl, ?_⟩) (by assumption) ?_
  rotate_left
  · intro U hSw
    have hSw := (cellOf (j := 0) hSw.2).trans (show (#[Value.int .u64 s] : Array Value)[0]? = some (.int .u64 s) from rfl)
    go_simp
    try with_reducible rfl
  try simp only [Act.put, List.setIfInBounds_toArray, List.set_cons_zero, List.set_cons_succ]
  refine wpAnyH_take (i := 3) (oi := _) (v := ?_) rfl (by kernel_rfl) (by kernel_rfl) (by kernel_rfl) (fun _ _ _ h => h) (Or.inl ⟨by rfl, ?_⟩) (by assumption) ?_
  rotate_left
  · intro U hSw
    have hSw := (cellOf (j := 0) hSw.2).trans (show (#[Value.int .u64 s] : Array Value)[0]? = some (.int .u64 s) from rfl)
    go_simp
    try with_reducible rfl
  try simp only [Act.put, List.setIfInBounds_toArray, List.set_cons_zero, List.set_cons_succ]
  refine wpAnyH_take (i := 4) (oi := _) (v := ?_) rfl (by kernel_rfl) (by kernel_rfl) (by kernel_rfl) (fun _ _ _ h => h) (Or.inl ⟨by rfl, ?_⟩) (by assumption) ?_
  rotate_left
  · intro U hSw
    have hSw := (cellOf (j := 0) hSw.2).trans (show (#[Value.int .u64 s] : Array Value)[0]? = some (.int .u64 s) from rfl)
    go_simp
    try with_reducible rfl
  try simp only [Act.put, List.setIfInBounds_toArray, List.set_cons_zero, List.set_cons_succ]
  refine wpAnyH_take (i := 5) (oi := _) (v := ?_) rfl (by kernel_rfl) (by kernel_rfl) (by kernel_rfl) (fun _ _ _ h => h) (Or.inl ⟨by rfl, ?_⟩) (by assumption) ?_
  rotate_left
  · intro U hSw
    have hSw := (cellOf (j := 0) hSw.2).trans (show (#[Value.int .u64 s] : Array Value)[0]? = some (.int .u64 s) from rfl)
    go_simp
    try with_reducible rfl
  try simp only [Act.put, List.setIfInBounds_toArray, List.set_cons_zero, List.set_cons_succ]
  obtain ⟨x0, x1, x2, x3, x4, x5, x6, x7⟩ := eightC h6
  have fz : ∀ j, V.frozen? ⟨M, j, none⟩ = false := fun j => frozenOf h6
  have k6 := set8_same (u0 := .int .u64 a0) (u1 := .int .u64 a1) (u2 := .int .u64 a2) (u3 := .int .u64 a3) (u4 := .int .u64 a4) (u5 := .int .u64 a5) (u6 := .int .u64 a6) (u7 := .int .u64 a7) h6
  have k7 := (heap_set8 (W := V) (T := M + 1) (B := M) (Nat.succ_ne_self M) (.int .u64 a0) (.int .u64 a1) (.int .u64 a2) (.int .u64 a3) (.int .u64 a4) (.int .u64 a5) (.int .u64 a6) (.int .u64 a7)).trans h7
  have kT := (heap_set8 (W := V) (T := T) (B := M) hTM (.int .u64 a0) (.int .u64 a1) (.int .u64 a2) (.int .u64 a3) (.int .u64 a4) (.int .u64 a5) (.int .u64 a6) (.int .u64 a7)).trans hT
  have kX := (heap_set8 (W := V) (T := X) (B := M) hXM (.int .u64 a0) (.int .u64 a1) (.int .u64 a2) (.int .u64 a3) (.int .u64 a4) (.int .u64 a5) (.int .u64 a6) (.int .u64 a7)).trans hX
  have kB := fun n w0 (h : Below n w0 W) (hn : n ≤ M) => Below.set8 (hB n w0 h) hn (.int .u64 a0) (.int .u64 a1) (.int .u64 a2) (.int .u64 a3) (.int .u64 a4) (.int .u64 a5) (.int .u64 a6) (.int .u64 a7)
  clear h6 h7 hT hX hB hHeld
  refine wpAnyH_ready (rs := [6]) (by kernel_rfl) (by simp) ?_
  refine AllReadyH.cons (o := _) rfl (fun K hK => ?_) AllReadyH.nil
  go_simp
  refine hK.out _ _ ⟨kT, kX⟩ (fun hHeld => ?_)
  clear hK K x0 x1 x2 x3 x4 x5 x6 x7 fz
  try simp only [Act.put, List.setIfInBounds_toArray, List.set_cons_zero, List.set_cons_succ]
  generalize ((((((((V.setCell ⟨M, 0, none⟩ (.int .u64 a0)).setCell ⟨M, 1, none⟩ (.int .u64 a1)).setCell ⟨M, 2, none⟩ (.int .u64 a2)).setCell ⟨M, 3, none⟩ (.int .u64 a3)).setCell ⟨M, 4, none⟩ (.int .u64 a4)).setCell ⟨M, 5, none⟩ (.int .u64 a5)).setCell ⟨M, 6, none⟩ (.int .u64 a6)).setCell ⟨M, 7, none⟩ (.int .u64 a7)) = V2 at *
  have c7 : V2.cell? ⟨M + 1, 0, none⟩ = some (.int .u64 0) := (cellOf k7).trans rfl
  have f7 : V2.frozen? ⟨M + 1, 0, none⟩ = false := frozenOf k7
  have j7 := heap_setCell_same V2 (M + 1) 0 _ 24 (.int .u64 s) k7
  have j6 := (setFar (w := V2) (a := ⟨M + 1, 0, none⟩) (T := M) (by show M ≠ M + 1; exact (Nat.succ_ne_self M).symm) (.int .u64 s)).trans k6
  have jX := (setFar (w := V2) (a := ⟨M + 1, 0, none⟩) (T := X) (by show X ≠ M + 1; exact hXN) (.int .u64 s)).trans kX
  have jB := fun n w0 (h : Below n w0 W) (hn : n ≤ M) => (kB n w0 h hn).setCell (p := ⟨M + 1, 0, none⟩) (Nat.le_trans hn (Nat.le_succ _)) (.int .u64 s)
  have jT : (V2.setCell ⟨M + 1, 0, none⟩ (.int .u64 s)).heap[T]? = some (.cells #[.int .u64 a0, .int .u64 a1, .int .u64 a2, .int .u64 a3, .int .u64 a4, .int .u64 a5, .int .u64 a6, .int .u64 a7] 26) := (setFar (w := V2) (a := ⟨M + 1, 0, none⟩) (T := T) (by show T ≠ M + 1; exact hTN) (.int .u64 s)).trans kT
  clear kT kX k6 k7 kB hHeld
  refine wpAnyH_ready (rs := [7]) (by kernel_rfl) (by simp) ?_
  refine AllReadyH.cons (o := _) rfl (fun K hK => ?_) AllReadyH.nil
  go_simp
  refine hK.out _ _ ⟨jT, jX⟩ (fun hHeld => ?_)
  clear hK K c7 f7
  try simp only [Act.put, List.setIfInBounds_toArray, List.set_cons_zero, List.set_cons_succ]
  refine wpAnyH_take (i := 8) (oi := _) (v := ?_) rfl (by kernel_rfl) (by kernel_rfl) (by kernel_rfl) (fun _ _ _ h => h) (Or.inl ⟨by rfl, ?_⟩) (by assumption) ?_
  rotate_left
  · intro U hSw
    clear hSw
    go_simp
    try with_reducible rfl
  try simp only [Act.put, List.setIfInBounds_toArray, List.set_cons_zero, List.set_cons_succ]
  refine wpAnyH_done (by kernel_rfl) ?_ _
  refine NoPanic.normal ?_
  exact HKK.out _ _ _ _ _ _ _ j6 j7 jB
end Go.Proofs.YtfeapgpjchjphaaGreat
namespace Go.Proofs.YtfeapgpjchjphaaGreat
open Go Go.Rx Go.RowKit Go.Big Go.Shelf
attribute [local instance] noAv
set_option maxHeartbeats 1600000 in
set_option maxRecDepth 100000 in
theorem wstate_ok {w : World} {X : Nat} {s a0 a1 a2 a3 a4 a5 a6 a7 : Int} (hX : w.heap[X]? = some (.cells #[.int .u64 s] 88)) :
    Calls Tryz.prog 39 #[.pointer (some ⟨X, 0, none⟩), .agg #[.int .u64 a0, .int .u64 a1, .int .u64 a2, .int .u64 a3, .int .u64 a4, .int .u64 a5, .int .u64 a6, .int .u64 a7], .int .i64 0] w (Gets (fun _ r => r = .tuple #[.agg #[.int .u64 a0, .int .u64 a1, .int .u64 a2, .int .u64 a3, .int .u64 a4, .int .u64 a5, .int .u64 a6, .int .u64 a7], .agg #[.int .u64 s], .int .i64 0]) w) := by
  have lX := ltH hX
  have h3 := fun o1 o2 o3 => heap3 w o1 o2 o3
  have bel := fun o1 o2 o3 => (((Below.refl w.heap.size w).alloc (Nat.le_refl _) o1).alloc (by simp) o2).alloc (by simp; omega) o3
  go_enter Tryz.func39, Tryz.ntmps39
  go_wp2_with fail
  rename_i hK
  obtain ⟨q0, q1, q2⟩ := h3 (.cells #[.int .u64 a0, .int .u64 a1, .int .u64 a2, .int .u64 a3, .int .u64 a4, .int .u64 a5, .int .u64 a6, .int .u64 a7] 26) (.cells #[.int .u64 0, .int .u64 0, .int .u64 0, .int .u64 0, .int .u64 0, .int .u64 0, .int .u64 0, .int .u64 0] 26) (.cells #[.int .u64 0] 24)
  have bel := bel (.cells #[.int .u64 a0, .int .u64 a1, .int .u64 a2, .int .u64 a3, .int .u64 a4, .int .u64 a5, .int .u64 a6, .int .u64 a7] 26) (.cells #[.int .u64 0, .int .u64 0, .int .u64 0, .int .u64 0, .int .u64 0, .int .u64 0, .int .u64 0, .int .u64 0] 26) (.cells #[.int .u64 0] 24)
  generalize (((w.alloc (.cells #[.int .u64 a0, .int .u64 a1, .int .u64 a2, .int .u64 a3, .int .u64 a4, .int .u64 a5, .int .u64 a6, .int .u64 a7] 26)).alloc (.cells #[.int .u64 0, .int .u64 0, .int .u64 0, .int .u64 0, .int .u64 0, .int .u64 0, .int .u64 0, .int .u64 0] 26)).alloc (.cells #[.int .u64 0] 24)) = w1 at *
  have hX1 := keepH hX bel
  refine ws_r3 (T := w.heap.size) (M := w.heap.size + 1) q0 hX1 q1 q2 (by omega) (by omega) (by omega) (by omega) _ _ _ _ _ _ _ _ _ _ _ _ _ _ _ _ _ _ _ ?_
  intro v14 v15 v16 v17 v18 v19 U j6 j7 jB
  have hb := jB w.heap.size w bel (Nat.le_succ _)
  clear bel q0 q1 q2 hX1 jB
  refine hK _ _ ?_
  clear hK
  obtain ⟨y0, y1, y2, y3, y4, y5, y6, y7⟩ := eightC j6
  have z0 : U.cell? ⟨w.heap.size + 1 + 1, 0, none⟩ = some (.int .u64 s) := (cellOf j7).trans rfl
  clear j6 j7
  go_wp2
  exact bodyPost_ret (v := .tuple #[.agg #[.int .u64 a0, .int .u64 a1, .int .u64 a2, .int .u64 a3, .int .u64 a4, .int .u64 a5, .int .u64 a6, .int .u64 a7], .agg #[.int .u64 s], .int .i64 0]) (by simp [results, Tryz.results39, go_sem, y0, y1, y2, y3, y4, y5, y6, y7, z0]) rfl ⟨_, rfl, rfl, hb⟩
set_option maxHeartbeats 1600000 in
set_option maxRecDepth 100000 in
theorem wstate_no {w : World} {p : Value} {e a0 a1 a2 a3 a4 a5 a6 a7 : Int} (he : e ≠ 0) :
    Calls Tryz.prog 39 #[p, .agg #[.int .u64 a0, .int .u64 a1, .int .u64 a2, .int .u64 a3, .int .u64 a4, .int .u64 a5, .int .u64 a6, .int .u64 a7], .int .i64 e] w (Gets (fun _ r => r = .tuple #[.agg #[.int .u64 0, .int .u64 0, .int .u64 0, .int .u64 0, .int .u64 0, .int .u64 0, .int .u64 0, .int .u64 0], .agg #[.int .u64 0], .int .i64 e]) w) := by
  have he' : (e == 0) = false := by simpa using he
  have h3 := fun o1 o2 o3 => heap3 w o1 o2 o3
  have bel := fun o1 o2 o3 => (((Below.refl w.heap.size w).alloc (Nat.le_refl _) o1).alloc (by simp) o2).alloc (by simp; omega) o3
  go_enter Tryz.func39, Tryz.ntmps39
  go_wp2_with fail
  obtain ⟨q0, q1, q2⟩ := h3 (.cells #[.int .u64 a0, .int .u64 a1, .int .u64 a2, .int .u64 a3, .int .u64 a4, .int .u64 a5, .int .u64 a6, .int .u64 a7] 26) (.cells #[.int .u64 0, .int .u64 0, .int .u64 0, .int .u64 0, .int .u64 0, .int .u64 0, .int .u64 0, .int .u64 0] 26) (.cells #[.int .u64 0] 24)
  have bel := bel (.cells #[.int .u64 a0, .int .u64 a1, .int .u64 a2, .int .u64 a3, .int .u64 a4, .int .u64 a5, .int .u64 a6, .int .u64 a7] 26) (.cells #[.int .u64 0, .int .u64 0, .int .u64 0, .int .u64 0, .int .u64 0, .int .u64 0, .int .u64 0, .int .u64 0] 26) (.cells #[.int .u64 0] 24)
  generalize (((w.alloc (.cells #[.int .u64 a0, .int .u64 a1, .int .u64 a2, .int .u64 a3, .int .u64 a4, .int .u64 a5, .int .u64 a6, .int .u64 a7] 26)).alloc (.cells #[.int .u64 0, .int .u64 0, .int .u64 0, .int .u64 0, .int .u64 0, .int .u64 0, .int .u64 0, .int .u64 0] 26)).alloc (.cells #[.int .u64 0] 24)) = w1 at *
  refine ws_r2 (M := w.heap.size + 1) q1 q2 _ _ _ _ _ _ _ _ _ _ _ _ _ _ _ _ _ _ _ _ ?_
  intro v11 v12 v13
  have hb : Below w.heap.size w w1.drew := bel.drew
  have j6 : w1.drew.heap[w.heap.size + 1]? = _ := q1
  have j7 : w1.drew.heap[w.heap.size + 1 + 1]? = _ := q2
  generalize w1.drew = U at *
  obtain ⟨y0, y1, y2, y3, y4, y5, y6, y7⟩ := eightC j6
  have z0 : U.cell? ⟨w.heap.size + 1 + 1, 0, none⟩ = some (.int .u64 0) := (cellOf j7).trans rfl
  clear j6 j7 q0 q1 q2 bel
  go_wp2
  exact bodyPost_ret (v := .tuple #[.agg #[.int .u64 0, .int .u64 0, .int .u64 0, .int .u64 0, .int .u64 0, .int .u64 0, .int .u64 0, .int .u64 0], .agg #[.int .u64 0], .int .i64 e]) (by simp [results, Tryz.results39, go_sem, y0, y1, y2, y3, y4, y5, y6, y7, z0]) rfl ⟨_, rfl, rfl, hb⟩
end Go.Proofs.YtfeapgpjchjphaaGreat
