/-
  Wide random numbers: what the reference's Wide hands back, stored.
-/
import Derived.Test.YtfeapgpjchjphaaGreatMW2
set_option linter.all false
namespace Go.Proofs.YtfeapgpjchjphaaGreat
open Go Go.Rx Go.RowKit Go.Big Go.Shelf
attribute [local instance] noAv
noncomputable def rwR6 : Code := ((Tryz.f12.body.bind (findRs 6)).getD .skip)
set_option maxHeartbeats 3200000 in
set_option maxRecDepth 100000 in
theorem rw_r6 {W : World} {N M : Nat} {s : Int} (hN : W.heap[N]? = some (.cells #[.int .u64 s] 24)) (h6 : W.heap[M]? = some (.cells #[.int .u64 0, .int .u64 0, .int .u64 0, .int .u64 0, .int .u64 0, .int .u64 0, .int .u64 0, .int .u64 0] 26)) (h7 : W.heap[M + 1]? = some (.cells #[.int .u64 0] 24)) (hNM : N ≠ M) (hNN : N ≠ M + 1)
    (c0 c1 c3 c6 c7 c8 c9 c10 c11 c12 c13 c14 c15 c16 c17 c18 c19 c20 c21 c22 c23 c24 c25 c26 c27 c28 c29 c30 c31 c32 c33 c34 c35 c36 c37 c38 c39 c40 c41 c42 c43 c44 c45 c46 c47 c48 c49 c50 c51 c52 c53 c54 c55 c56 c57 c58 c59 c60 c61 c62 c63 c64 c65 c66 c67 c68 c69 c70 c71 c72 c73 c74 c75 c76 c77 c78 c79 c80 c81 c82 c83 c84 c85 : Value) (ds : List Deferred) (K' : Act → World → Prop) (Q' : Exit → Act → World → Prop)
    (hKK : ∀ (v34 v35 : Value) (U : World), U.heap[M]? = some (.cells #[.int .u64 0, .int .u64 0, .int .u64 0, .int .u64 0, .int .u64 0, .int .u64 0, .int .u64 0, .int .u64 0] 26) → U.heap[M + 1]? = some (.cells #[.int .u64 s] 24) → (∀ n w0, Below n w0 W → n ≤ M → Below n w0 U) → K' ⟨(List.toArray (c0 :: c1 :: .pointer (some ⟨N, 0, none⟩) :: c3 :: .pointer (some ⟨M, 0, none⟩) :: .pointer (some ⟨M + 1, 0, none⟩) :: .int .i64 0 :: c7 :: c8 :: c9 :: c10 :: c11 :: c12 :: c13 :: c14 :: c15 :: c16 :: c17 :: c18 :: c19 :: c20 :: c21 :: c22 :: c23 :: c24 :: c25 :: c26 :: c27 :: c28 :: c29 :: c30 :: c31 :: c32 :: c33 :: v34 :: v35 :: c36 :: c37 :: c38 :: c39 :: c40 :: c41 :: c42 :: c43 :: c44 :: c45 :: c46 :: c47 :: c48 :: c49 :: c50 :: c51 :: c52 :: c53 :: c54 :: c55 :: c56 :: c57 :: c58 :: c59 :: c60 :: c61 :: c62 :: c63 :: c64 :: c65 :: c66 :: c67 :: c68 :: c69 :: c70 :: c71 :: c72 :: c73 :: c74 :: c75 :: c76 :: c77 :: c78 :: c79 :: c80 :: c81 :: c82 :: c83 :: c84 :: c85 :: [])), ds⟩ U) :
    Code.wp Tryz.prog rwR6 (Exit.then K' Q') ⟨(List.toArray (c0 :: c1 :: .pointer (some ⟨N, 0, none⟩) :: c3 :: .pointer (some ⟨M, 0, none⟩) :: .pointer (some ⟨M + 1, 0, none⟩) :: c6 :: c7 :: c8 :: c9 :: c10 :: c11 :: c12 :: c13 :: c14 :: c15 :: c16 :: c17 :: c18 :: c19 :: c20 :: c21 :: c22 :: c23 :: c24 :: c25 :: c26 :: c27 :: c28 :: c29 :: c30 :: c31 :: c32 :: c33 :: c34 :: c35 :: c36 :: c37 :: c38 :: c39 :: c40 :: c41 :: c42 :: c43 :: c44 :: c45 :: c46 :: c47 :: c48 :: c49 :: c50 :: c51 :: c52 :: c53 :: c54 :: c55 :: c56 :: c57 :: c58 :: c59 :: c60 :: c61 :: c62 :: c63 :: c64 :: c65 :: c66 :: c67 :: c68 :: c69 :: c70 :: c71 :: c72 :: c73 :: c74 :: c75 :: c76 :: c77 :: c78 :: c79 :: c80 :: c81 :: c82 :: c83 :: c84 :: c85 :: [])), ds⟩ W := by
  have hN : W.drew.heap[N]? = some (.cells #[.int .u64 s] 24) := hN
  have h6 : W.drew.heap[M]? = some (.cells #[.int .u64 0, .int .u64 0, .int .u64 0, .int .u64 0, .int .u64 0, .int .u64 0, .int .u64 0, .int .u64 0] 26) := h6
  have h7 : W.drew.heap[M + 1]? = some (.cells #[.int .u64 0] 24) := h7
  have hB : ∀ n w0, Below n w0 W → Below n w0 W.drew := fun n w0 h => h.drew
  have HKK := Lib.hid hKK
  clear hKK
  conv => arg 2; whnf
  refine wp_region_noPanic ?_
  refine wp_region_held_drew (S := fun w' => w'.heap[N]? = some (.cells #[.int .u64 s] 24)) (by kernel_rfl) hN (fun hHeld => ?_)
  generalize W.drew = V at *
  refine wpAnyH_take (i := 0) (oi := _) (v := ?_) rfl (by kernel_rfl) (by kernel_rfl) (by kernel_rfl) (fun _ _ _ h => h) (Or.inl ⟨by rfl, ?_⟩) (by assumption) ?_
  rotate_left
  · intro U hSw
    clear hSw
    go_simp
    try with_reducible rfl
  try simp only [Act.put, List.setIfInBounds_toArray, List.set_cons_zero, List.set_cons_succ]
  refine wpAnyH_take (i := 1) (oi := _) (v := ?_) rfl (by kernel_rfl) (by kernel_rfl) (by kernel_rfl) (fun _ _ _ h => h) (Or.inl ⟨by rfl, ?_⟩) (by assumption) ?_
  rotate_left
  · intro U hSw
    have hSw := (cellOf (j := 0) hSw).trans (show (#[Value.int .u64 s] : Array Value)[0]? = some (.int .u64 s) from rfl)
    go_simp
    try with_reducible rfl
  try simp only [Act.put, List.setIfInBounds_toArray, List.set_cons_zero, List.set_cons_succ]
  obtain ⟨x0, x1, x2, x3, x4, x5, x6, x7⟩ := eightC h6
  have fz : ∀ j, V.frozen? ⟨M, j, none⟩ = false := fun j => frozenOf h6
  have k6 := set8_same (u0 := .int .u64 0) (u1 := .int .u64 0) (u2 := .int .u64 0) (u3 := .int .u64 0) (u4 := .int .u64 0) (u5 := .int .u64 0) (u6 := .int .u64 0) (u7 := .int .u64 0) h6
  have k7 := (heap_set8 (W := V) (T := M + 1) (B := M) (Nat.succ_ne_self M) (.int .u64 0) (.int .u64 0) (.int .u64 0) (.int .u64 0) (.int .u64 0) (.int .u64 0) (.int .u64 0) (.int .u64 0)).trans h7
  have kN := (heap_set8 (W := V) (T := N) (B := M) hNM (.int .u64 0) (.int .u64 0) (.int .u64 0) (.int .u64 0) (.int .u64 0) (.int .u64 0) (.int .u64 0) (.int .u64 0)).trans hN
  have kB := fun n w0 (h : Below n w0 W) (hn : n ≤ M) => Below.set8 (hB n w0 h) hn (.int .u64 0) (.int .u64 0) (.int .u64 0) (.int .u64 0) (.int .u64 0) (.int .u64 0) (.int .u64 0) (.int .u64 0)
  clear h6 h7 hN hB hHeld
  refine wpAnyH_ready (rs := [2]) (by kernel_rfl) (by simp) ?_
  refine AllReadyH.cons (o := _) rfl (fun K hK => ?_) AllReadyH.nil
  go_simp
  refine hK.out _ _ kN (fun hHeld => ?_)
  clear hK K x0 x1 x2 x3 x4 x5 x6 x7 fz
  try simp only [Act.put, List.setIfInBounds_toArray, List.set_cons_zero, List.set_cons_succ]
  generalize ((((((((V.setCell ⟨M, 0, none⟩ (.int .u64 0)).setCell ⟨M, 1, none⟩ (.int .u64 0)).setCell ⟨M, 2, none⟩ (.int .u64 0)).setCell ⟨M, 3, none⟩ (.int .u64 0)).setCell ⟨M, 4, none⟩ (.int .u64 0)).setCell ⟨M, 5, none⟩ (.int .u64 0)).setCell ⟨M, 6, none⟩ (.int .u64 0)).setCell ⟨M, 7, none⟩ (.int .u64 0)) = V2 at *
  have c7 : V2.cell? ⟨M + 1, 0, none⟩ = some (.int .u64 0) := (cellOf k7).trans rfl
  have f7 : V2.frozen? ⟨M + 1, 0, none⟩ = false := frozenOf k7
  have j7 := heap_setCell_same V2 (M + 1) 0 _ 24 (.int .u64 s) k7
  have j6 := (setFar (w := V2) (a := ⟨M + 1, 0, none⟩) (T := M) (by show M ≠ M + 1; exact (Nat.succ_ne_self M).symm) (.int .u64 s)).trans k6
  have jN := (setFar (w := V2) (a := ⟨M + 1, 0, none⟩) (T := N) (by show N ≠ M + 1; exact hNN) (.int .u64 s)).trans kN
  have jB := fun n w0 (h : Below n w0 W) (hn : n ≤ M) => (kB n w0 h hn).setCell (p := ⟨M + 1, 0, none⟩) (Nat.le_trans hn (Nat.le_succ _)) (.int .u64 s)
  clear kN k6 k7 kB hHeld
  refine wpAnyH_ready (rs := [3]) (by kernel_rfl) (by simp) ?_
  refine AllReadyH.cons (o := _) rfl (fun K hK => ?_) AllReadyH.nil
  go_simp
  refine hK.out _ _ jN (fun hHeld => ?_)
  clear hK K c7 f7
  try simp only [Act.put, List.setIfInBounds_toArray, List.set_cons_zero, List.set_cons_succ]
  refine wpAnyH_take (i := 4) (oi := _) (v := ?_) rfl (by kernel_rfl) (by kernel_rfl) (by kernel_rfl) (fun _ _ _ h => h) (Or.inl ⟨by rfl, ?_⟩) (by assumption) ?_
  rotate_left
  · intro U hSw
    clear hSw
    go_simp
    try with_reducible rfl
  try simp only [Act.put, List.setIfInBounds_toArray, List.set_cons_zero, List.set_cons_succ]
  refine wpAnyH_done (by kernel_rfl) ?_ _
  refine NoPanic.normal ?_
  exact HKK.out _ _ _ j6 j7 jB
noncomputable def rwR23 : Code := ((Tryz.f12.body.bind (findRs 23)).getD .skip)
set_option maxHeartbeats 3200000 in
set_option maxRecDepth 100000 in
theorem rw_r23 {W : World} {N M T : Nat} {s a0 a1 a2 a3 a4 a5 a6 a7 : Int} (hN : W.heap[N]? = some (.cells #[.int .u64 s] 24)) (hT : W.heap[T]? = some (.cells #[.int .u64 a0, .int .u64 a1, .int .u64 a2, .int .u64 a3, .int .u64 a4, .int .u64 a5, .int .u64 a6, .int .u64 a7] 26)) (h6 : W.heap[M]? = some (.cells #[.int .u64 0, .int .u64 0, .int .u64 0, .int .u64 0, .int .u64 0, .int .u64 0, .int .u64 0, .int .u64 0] 26)) (h7 : W.heap[M + 1]? = some (.cells #[.int .u64 0] 24)) (hNM : N ≠ M) (hNN : N ≠ M + 1) (hTM : T ≠ M) (hTN : T ≠ M + 1)
    (c0 c1 c3 c6 c7 c8 c9 c10 c11 c12 c13 c14 c15 c16 c17 c18 c20 c21 c22 c23 c24 c25 c26 c27 c28 c29 c30 c31 c32 c33 c34 c35 c36 c37 c38 c39 c40 c41 c42 c43 c44 c45 c46 c47 c48 c49 c50 c51 c52 c53 c54 c55 c56 c57 c58 c59 c60 c61 c62 c63 c64 c65 c66 c67 c68 c69 c70 c71 c72 c73 c74 c75 c76 c77 c78 c79 c80 c81 c82 c83 c84 c85 : Value) (ds : List Deferred) (K' : Act → World → Prop) (Q' : Exit → Act → World → Prop)
    (hKK : ∀ (v82 v83 : Value) (U : World), U.heap[M]? = some (.cells #[.int .u64 a0, .int .u64 a1, .int .u64 a2, .int .u64 a3, .int .u64 a4, .int .u64 a5, .int .u64 a6, .int .u64 a7] 26) → U.heap[M + 1]? = some (.cells #[.int .u64 s] 24) → (∀ n w0, Below n w0 W → n ≤ M → Below n w0 U) → K' ⟨(List.toArray (c0 :: c1 :: .pointer (some ⟨N, 0, none⟩) :: c3 :: .pointer (some ⟨M, 0, none⟩) :: .pointer (some ⟨M + 1, 0, none⟩) :: .int .i64 0 :: c7 :: c8 :: c9 :: c10 :: c11 :: c12 :: c13 :: c14 :: c15 :: c16 :: c17 :: c18 :: .pointer (some ⟨T, 0, none⟩) :: c20 :: c21 :: c22 :: c23 :: c24 :: c25 :: c26 :: c27 :: c28 :: c29 :: c30 :: c31 :: c32 :: c33 :: c34 :: c35 :: c36 :: c37 :: c38 :: c39 :: c40 :: c41 :: c42 :: c43 :: c44 :: c45 :: c46 :: c47 :: c48 :: c49 :: c50 :: c51 :: c52 :: c53 :: c54 :: c55 :: c56 :: c57 :: c58 :: c59 :: c60 :: c61 :: c62 :: c63 :: c64 :: c65 :: c66 :: c67 :: c68 :: c69 :: c70 :: c71 :: c72 :: c73 :: c74 :: c75 :: c76 :: c77 :: c78 :: c79 :: c80 :: c81 :: v82 :: v83 :: c84 :: c85 :: [])), ds⟩ U) :
    Code.wp Tryz.prog rwR23 (Exit.then K' Q') ⟨(List.toArray (c0 :: c1 :: .pointer (some ⟨N, 0, none⟩) :: c3 :: .pointer (some ⟨M, 0, none⟩) :: .pointer (some ⟨M + 1, 0, none⟩) :: c6 :: c7 :: c8 :: c9 :: c10 :: c11 :: c12 :: c13 :: c14 :: c15 :: c16 :: c17 :: c18 :: .pointer (some ⟨T, 0, none⟩) :: c20 :: c21 :: c22 :: c23 :: c24 :: c25 :: c26 :: c27 :: c28 :: c29 :: c30 :: c31 :: c32 :: c33 :: c34 :: c35 :: c36 :: c37 :: c38 :: c39 :: c40 :: c41 :: c42 :: c43 :: c44 :: c45 :: c46 :: c47 :: c48 :: c49 :: c50 :: c51 :: c52 :: c53 :: c54 :: c55 :: c56 :: c57 :: c58 :: c59 :: c60 :: c61 :: c62 :: c63 :: c64 :: c65 :: c66 :: c67 :: c68 :: c69 :: c70 :: c71 :: c72 :: c73 :: c74 :: c75 :: c76 :: c77 :: c78 :: c79 :: c80 :: c81 :: c82 :: c83 :: c84 :: c85 :: [])), ds⟩ W := by
  have hN : W.drew.heap[N]? = some (.cells #[.int .u64 s] 24) := hN
  have hT : W.drew.heap[T]? = some (.cells #[.int .u64 a0, .int .u64 a1, .int .u64 a2, .int .u64 a3, .int .u64 a4, .int .u64 a5, .int .u64 a6, .int .u64 a7] 26) := hT
  have h6 : W.drew.heap[M]? = some (.cells #[.int .u64 0, .int .u64 0, .int .u64 0, .int .u64 0, .int .u64 0, .int .u64 0, .int .u64 0, .int .u64 0] 26) := h6
  have h7 : W.drew.heap[M + 1]? = some (.cells #[.int .u64 0] 24) := h7
  have hB : ∀ n w0, Below n w0 W → Below n w0 W.drew := fun n w0 h => h.drew
  have HKK := Lib.hid hKK
  clear hKK
  conv => arg 2; whnf
  refine wp_region_noPanic ?_
  refine wp_region_held_drew (S := fun w' => w'.heap[T]? = some (.cells #[.int .u64 a0, .int .u64 a1, .int .u64 a2, .int .u64 a3, .int .u64 a4, .int .u64 a5, .int .u64 a6, .int .u64 a7] 26) ∧ w'.heap[N]? = some (.cells #[.int .u64 s] 24)) (by kernel_rfl) ⟨hT, hN⟩ (fun hHeld => ?_)
  generalize W.drew = V at *
  refine' wpAnyH_take (i := 0) (oi := _) (v := _) rfl (by kernel_rfl) (by kernel_rfl) (by kernel_rfl) (fun _ _ _ h => h)
    (yieldsIf_load_mid (by rfl) _ _ rfl T 0 rfl [.int .u64 a0, .int .u64 a1, .int .u64 a2, .int .u64 a3, .int .u64 a4, .int .u64 a5, .int .u64 a6, .int .u64 a7] _ (fun U h j v hj => by rw [Nat.zero_add, cellOf h.1, List.getElem?_toArray]; exact hj) Tryz.underlying26 rfl (by kernel_rfl)) hHeld ?_
  try simp only [Act.put, List.setIfInBounds_toArray, List.set_cons_zero, List.set_cons_succ]
  refine wpAnyH_take (i := 1) (oi := _) (v := ?_) rfl (by kernel_rfl) (by kernel_rfl) (by kernel_rfl) (fun _ _ _ h => h) (Or.inl ⟨by rfl, ?_⟩) (by assumption) ?_
  rotate_left
  · intro U hSw
    have hSw := (cellOf (j := 0) hSw.2).trans (show (#[Value.int .u64 s] : Array Value)[0]? = some (.int .u64 s) from rfl)
    go_simp
    try with_reducible rfl
  try simp only [Act.put, List.setIfInBounds_toArray, List.set_cons_zero, List.set_cons_succ]
  obtain ⟨x0, x1, x2, x3, x4, x5, x6, x7⟩ := eightC h6
  have fz : ∀ j, V.frozen? ⟨M, j, none⟩ = false := fun j => frozenOf h6
  have k6 := set8_same (u0 := .int .u64 a0) (u1 := .int .u64 a1) (u2 := .int .u64 a2) (u3 := .int .u64 a3) (u4 := .int .u64 a4) (u5 := .int .u64 a5) (u6 := .int .u64 a6) (u7 := .int .u64 a7) h6
  have k7 := (heap_set8 (W := V) (T := M + 1) (B := M) (Nat.succ_ne_self M) (.int .u64 a0) (.int .u64 a1) (.int .u64 a2) (.int .u64 a3) (.int .u64 a4) (.int .u64 a5) (.int .u64 a6) (.int .u64 a7)).trans h7
  have kN := (heap_set8 (W := V) (T := N) (B := M) hNM (.int .u64 a0) (.int .u64 a1) (.int .u64 a2) (.int .u64 a3) (.int .u64 a4) (.int .u64 a5) (.int .u64 a6) (.int .u64 a7)).trans hN
  have kT := (heap_set8 (W := V) (T := T) (B := M) hTM (.int .u64 a0) (.int .u64 a1) (.int .u64 a2) (.int .u64 a3) (.int .u64 a4) (.int .u64 a5) (.int .u64 a6) (.int .u64 a7)).trans hT
  have kB := fun n w0 (h : Below n w0 W) (hn : n ≤ M) => Below.set8 (hB n w0 h) hn (.int .u64 a0) (.int .u64 a1) (.int .u64 a2) (.int .u64 a3) (.int .u64 a4) (.int .u64 a5) (.int .u64 a6) (.int .u64 a7)
  clear h6 h7 hN hB hHeld hT
  refine wpAnyH_ready (rs := [2]) (by kernel_rfl) (by simp) ?_
  refine AllReadyH.cons (o := _) rfl (fun K hK => ?_) AllReadyH.nil
  go_simp
  refine hK.out _ _ ⟨kT, kN⟩ (fun hHeld => ?_)
  clear hK K x0 x1 x2 x3 x4 x5 x6 x7 fz
  try simp only [Act.put, List.setIfInBounds_toArray, List.set_cons_zero, List.set_cons_succ]
  generalize ((((((((V.setCell ⟨M, 0, none⟩ (.int .u64 a0)).setCell ⟨M, 1, none⟩ (.int .u64 a1)).setCell ⟨M, 2, none⟩ (.int .u64 a2)).setCell ⟨M, 3, none⟩ (.int .u64 a3)).setCell ⟨M, 4, none⟩ (.int .u64 a4)).setCell ⟨M, 5, none⟩ (.int .u64 a5)).setCell ⟨M, 6, none⟩ (.int .u64 a6)).setCell ⟨M, 7, none⟩ (.int .u64 a7)) = V2 at *
  have c7 : V2.cell? ⟨M + 1, 0, none⟩ = some (.int .u64 0) := (cellOf k7).trans rfl
  have f7 : V2.frozen? ⟨M + 1, 0, none⟩ = false := frozenOf k7
  have j7 := heap_setCell_same V2 (M + 1) 0 _ 24 (.int .u64 s) k7
  have j6 := (setFar (w := V2) (a := ⟨M + 1, 0, none⟩) (T := M) (by show M ≠ M + 1; exact (Nat.succ_ne_self M).symm) (.int .u64 s)).trans k6
  have jN := (setFar (w := V2) (a := ⟨M + 1, 0, none⟩) (T := N) (by show N ≠ M + 1; exact hNN) (.int .u64 s)).trans kN
  have jT := (setFar (w := V2) (a := ⟨M + 1, 0, none⟩) (T := T) (by show T ≠ M + 1; exact hTN) (.int .u64 s)).trans kT
  have jB := fun n w0 (h : Below n w0 W) (hn : n ≤ M) => (kB n w0 h hn).setCell (p := ⟨M + 1, 0, none⟩) (Nat.le_trans hn (Nat.le_succ _)) (.int .u64 s)
  clear kN k6 k7 kB hHeld kT
  refine wpAnyH_ready (rs := [3]) (by kernel_rfl) (by simp) ?_
  refine AllReadyH.cons (o := _) rfl (fun K hK => ?_) AllReadyH.nil
  go_simp
  refine hK.out _ _ ⟨jT, jN⟩ (fun hHeld => ?_)
  clear hK K c7 f7
  try simp only [Act.put, List.setIfInBounds_toArray, List.set_cons_zero, List.set_cons_succ]
  refine wpAnyH_take (i := 4) (oi := _) (v := ?_) rfl (by kernel_rfl) (by kernel_rfl) (by kernel_rfl) (fun _ _ _ h => h) (Or.inl ⟨by rfl, ?_⟩) (by assumption) ?_
  rotate_left
  · intro U hSw
    clear hSw
    go_simp
    try with_reducible rfl
  try simp only [Act.put, List.setIfInBounds_toArray, List.set_cons_zero, List.set_cons_succ]
  refine wpAnyH_done (by kernel_rfl) ?_ _
  refine NoPanic.normal ?_
  exact HKK.out _ _ _ j6 j7 jB
end Go.Proofs.YtfeapgpjchjphaaGreat
