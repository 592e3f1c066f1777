/-
  The law WideTells: the list over which it ranges.
-/
import Derived.Test.YtedhjlkidcojhaaGreatMLFa
set_option linter.all false
namespace Go.Proofs.YtedhjlkidcojhaaGreat
open Go Go.Rx Go.RowKit Go.Big
attribute [local instance] noAv
theorem Tryz.info35 : (Tryz.prog.info? 35).map (fun i => (i.zero, i.size, i.bytes)) = some (some (.agg #[.int .u64 0, .int .u64 0, .int .u64 0, .int .u64 0, .int .u64 0, .int .u64 0, .int .u64 0, .int .u64 0, .int .u64 0, .int .u64 0, .int .u64 0, .int .u64 0, .int .u64 0, .int .u64 0, .int .u64 0, .int .u64 0]), 16, 128) := by kernel_rfl
theorem own_low {w : World} {base base' size n : Nat} {e : TypeId} {v : Value} {xs : List Value} (h : w.ownsRow base e size v n xs) (hb : base' ≤ base) : w.ownsRow base' e size v n xs :=
  ⟨h.1, h.2.imp id fun ⟨g, cap, cur, h1, h2, h3⟩ => ⟨g, cap, cur, h1, Nat.le_trans hb h2, h3⟩⟩
theorem all2_v {ρ : Loc'} : ∀ (l : List Int), All2 (DC ρ) (l.map fun a => C.v (.int .u64 a)) (l.map fun a => Value.int .u64 a)
  | [] => .nil
  | _ :: l => .cons (.v rfl) (all2_v l)
/-- Eight words are equal to themselves. -/
theorem eq8_same (z0 z1 z2 z3 z4 z5 z6 z7 : Int) (w : World) : (Op.equalIn 10000 24 (.agg #[Value.int .u64 z0, Value.int .u64 z1, Value.int .u64 z2, Value.int .u64 z3, Value.int .u64 z4, Value.int .u64 z5, Value.int .u64 z6, Value.int .u64 z7]) (.agg #[Value.int .u64 z0, Value.int .u64 z1, Value.int .u64 z2, Value.int .u64 z3, Value.int .u64 z4, Value.int .u64 z5, Value.int .u64 z6, Value.int .u64 z7])).run Tryz.prog w = .ok true w := by
  have h : aggEq Tryz.prog 24 ([z0, z1, z2, z3, z4, z5, z6, z7].map fun a => C.v (.int .u64 a)) ([z0, z1, z2, z3, z4, z5, z6, z7].map fun a => C.v (.int .u64 a)) = some ((z0 == z0) && ((z1 == z1) && ((z2 == z2) && ((z3 == z3) && ((z4 == z4) && ((z5 == z5) && ((z6 == z6) && ((z7 == z7) && true)))))))) := by kernel_rfl
  rw [show ((z0 == z0) && ((z1 == z1) && ((z2 == z2) && ((z3 == z3) && ((z4 == z4) && ((z5 == z5) && ((z6 == z6) && ((z7 == z7) && true)))))))) = true by simp] at h
  exact (aggEq_sound (ρ := noLoc (lets0 fun _ => 0)) h (all2_v _) (all2_v _) w).1
theorem one16 {z0 z1 z2 z3 z4 z5 z6 z7 z8 z9 z10 z11 z12 z13 z14 z15 : Int} : ∀ u ∈ [Value.int .u64 z0, Value.int .u64 z1, Value.int .u64 z2, Value.int .u64 z3, Value.int .u64 z4, Value.int .u64 z5, Value.int .u64 z6, Value.int .u64 z7, Value.int .u64 z8, Value.int .u64 z9, Value.int .u64 z10, Value.int .u64 z11, Value.int .u64 z12, Value.int .u64 z13, Value.int .u64 z14, Value.int .u64 z15], u.oneCell' = true := by
  intro u hu
  simp only [List.mem_cons, List.not_mem_nil, or_false] at hu
  rcases hu with rfl | rfl | rfl | rfl | rfl | rfl | rfl | rfl | rfl | rfl | rfl | rfl | rfl | rfl | rfl | rfl <;> rfl
noncomputable def tellsR6 : Code := ((Tryz.f3.body.bind (findR 6)).getD .skip)
set_option maxHeartbeats 4000000 in
set_option maxRecDepth 100000 in
theorem tells_r6 {w w0 w3 w4 : World} {T : Nat} {a0 a1 a2 a3 a4 a5 a6 a7 b0 b1 b2 b3 b4 b5 b6 b7 o0 o1 o2 o3 o4 o5 o6 o7 m0 m1 m2 m3 m4 m5 m6 m7 n cl dl : Int} {cb db : Bool} {ca da : Option Addr} {cn cc dn dc : Nat} (fN : fit n) (fM : fit (IntKind.i64.wrap (-n))) (HO : W n = .agg #[.int .u64 o0, .int .u64 o1, .int .u64 o2, .int .u64 o3, .int .u64 o4, .int .u64 o5, .int .u64 o6, .int .u64 o7]) (HM : W (IntKind.i64.wrap (-n)) = .agg #[.int .u64 m0, .int .u64 m1, .int .u64 m2, .int .u64 m3, .int .u64 m4, .int .u64 m5, .int .u64 m6, .int .u64 m7])
    (k0 : w0.heap[w.heap.size]? = some (.cells #[.int .u64 a0, .int .u64 a1, .int .u64 a2, .int .u64 a3, .int .u64 a4, .int .u64 a5, .int .u64 a6, .int .u64 a7, .int .u64 b0, .int .u64 b1, .int .u64 b2, .int .u64 b3, .int .u64 b4, .int .u64 b5, .int .u64 b6, .int .u64 b7, .bool cb, .slice ca cn cc, .int .u32 cl, .bool db, .slice da dn dc, .int .u32 dl] 30)) (kt : w3.heap[T]? = some (.cells #[.int .u64 o0, .int .u64 o1, .int .u64 o2, .int .u64 o3, .int .u64 o4, .int .u64 o5, .int .u64 o6, .int .u64 o7] 24)) (bel3 : Below w0.heap.size w0 w3) (hlt0 : w.heap.size < w0.heap.size) (y1 : Below w3.heap.size w3 w4)
    (hPairs : ∀ W, Below w3.heap.size w3 W → Calls Tryz.prog 9 #[.agg #[.int .u64 a0, .int .u64 a1, .int .u64 a2, .int .u64 a3, .int .u64 a4, .int .u64 a5, .int .u64 a6, .int .u64 a7, .int .u64 b0, .int .u64 b1, .int .u64 b2, .int .u64 b3, .int .u64 b4, .int .u64 b5, .int .u64 b6, .int .u64 b7, .bool cb, .slice ca cn cc, .int .u32 cl, .bool db, .slice da dn dc, .int .u32 dl]] W (Gets (PairsV W.heap.size 6) W))
    (hRefM : ∀ W, Calls Tryz.prog 8 #[.int .i64 (IntKind.i64.wrap (-n))] W (Gets (fun _ r => r = .agg #[.int .u64 m0, .int .u64 m1, .int .u64 m2, .int .u64 m3, .int .u64 m4, .int .u64 m5, .int .u64 m6, .int .u64 m7]) W))
    (K' : Act → World → Prop) (Q' : Exit → Act → World → Prop)
    (hK : ∀ (g cap : Nat) (w7 : World) (qs : List (Int × Int)) (u20 u21 u22 u23 u24 u25 u26 u27 : Value), (∀ p ∈ qs, fit p.1 ∧ fit p.2) → qs.length = 7 → w7.ownsRow w3.heap.size 35 16 (.slice (some ⟨g, 0, none⟩) 7 cap) 7 (qs.flatMap cellsP) → Below w3.heap.size w3 w7 → K' ⟨(List.toArray ((.agg #[.int .u64 a0, .int .u64 a1, .int .u64 a2, .int .u64 a3, .int .u64 a4, .int .u64 a5, .int .u64 a6, .int .u64 a7, .int .u64 b0, .int .u64 b1, .int .u64 b2, .int .u64 b3, .int .u64 b4, .int .u64 b5, .int .u64 b6, .int .u64 b7, .bool cb, .slice ca cn cc, .int .u32 cl, .bool db, .slice da dn dc, .int .u32 dl]) :: (.int .i64 n) :: (.pointer (some ⟨w.heap.size, 0, none⟩)) :: undef :: (.bool false) :: (.pointer (some ⟨T, 0, none⟩)) :: undef :: undef :: undef :: undef :: undef :: undef :: (.bool true) :: (.bool false) :: (.int .i64 n) :: (.agg #[.int .u64 o0, .int .u64 o1, .int .u64 o2, .int .u64 o3, .int .u64 o4, .int .u64 o5, .int .u64 o6, .int .u64 o7]) :: (.agg #[.int .u64 o0, .int .u64 o1, .int .u64 o2, .int .u64 o3, .int .u64 o4, .int .u64 o5, .int .u64 o6, .int .u64 o7]) :: (.int .i64 n) :: (.agg #[.int .u64 o0, .int .u64 o1, .int .u64 o2, .int .u64 o3, .int .u64 o4, .int .u64 o5, .int .u64 o6, .int .u64 o7]) :: (.bool false) :: (u20) :: (u21) :: (u22) :: (u23) :: (u24) :: (u25) :: (u26) :: (u27) :: (.slice (some ⟨g, 0, none⟩) 7 cap) :: (.int .i64 7) :: (.int .i64 0) :: undef :: undef :: undef :: undef :: undef :: undef :: undef :: undef :: undef :: undef :: undef :: undef :: undef :: undef :: undef :: undef :: undef :: undef :: undef :: undef :: undef :: undef :: undef :: undef :: undef :: undef :: undef :: undef :: undef :: undef :: undef :: undef :: undef :: undef :: undef :: undef :: undef :: undef :: undef :: undef :: undef :: undef :: undef :: undef :: undef :: undef :: [])), []⟩ w7) :
    Code.wp Tryz.prog tellsR6 (Exit.then K' Q') ⟨(List.toArray ((.agg #[.int .u64 a0, .int .u64 a1, .int .u64 a2, .int .u64 a3, .int .u64 a4, .int .u64 a5, .int .u64 a6, .int .u64 a7, .int .u64 b0, .int .u64 b1, .int .u64 b2, .int .u64 b3, .int .u64 b4, .int .u64 b5, .int .u64 b6, .int .u64 b7, .bool cb, .slice ca cn cc, .int .u32 cl, .bool db, .slice da dn dc, .int .u32 dl]) :: (.int .i64 n) :: (.pointer (some ⟨w.heap.size, 0, none⟩)) :: undef :: (.bool false) :: (.pointer (some ⟨T, 0, none⟩)) :: undef :: undef :: undef :: undef :: undef :: undef :: (.bool true) :: (.bool false) :: (.int .i64 n) :: (.agg #[.int .u64 o0, .int .u64 o1, .int .u64 o2, .int .u64 o3, .int .u64 o4, .int .u64 o5, .int .u64 o6, .int .u64 o7]) :: (.agg #[.int .u64 o0, .int .u64 o1, .int .u64 o2, .int .u64 o3, .int .u64 o4, .int .u64 o5, .int .u64 o6, .int .u64 o7]) :: (.int .i64 n) :: (.agg #[.int .u64 o0, .int .u64 o1, .int .u64 o2, .int .u64 o3, .int .u64 o4, .int .u64 o5, .int .u64 o6, .int .u64 o7]) :: (.bool false) :: undef :: undef :: undef :: undef :: undef :: undef :: undef :: undef :: undef :: undef :: undef :: undef :: undef :: undef :: undef :: undef :: undef :: undef :: undef :: undef :: undef :: undef :: undef :: undef :: undef :: undef :: undef :: undef :: undef :: undef :: undef :: undef :: undef :: undef :: undef :: undef :: undef :: undef :: undef :: undef :: undef :: undef :: undef :: undef :: undef :: undef :: undef :: undef :: undef :: undef :: undef :: undef :: undef :: undef :: undef :: undef :: undef :: [])), []⟩ w4 := by
  have hTlt : T < w3.heap.size := (Array.getElem?_eq_some_iff.1 kt).1
  have HO := Lib.hid HO
  have HM := Lib.hid HM
  have allS : ∀ W, Below w3.heap.size w3 W → W.rangeAt w.heap.size 0 [.int .u64 a0, .int .u64 a1, .int .u64 a2, .int .u64 a3, .int .u64 a4, .int .u64 a5, .int .u64 a6, .int .u64 a7, .int .u64 b0, .int .u64 b1, .int .u64 b2, .int .u64 b3, .int .u64 b4, .int .u64 b5, .int .u64 b6, .int .u64 b7, .bool cb, .slice ca cn cc, .int .u32 cl, .bool db, .slice da dn dc, .int .u32 dl] ∧ W.cell? ⟨T, 0, none⟩ = some (.int .u64 o0) ∧ W.cell? ⟨T, 1, none⟩ = some (.int .u64 o1) ∧ W.cell? ⟨T, 2, none⟩ = some (.int .u64 o2) ∧ W.cell? ⟨T, 3, none⟩ = some (.int .u64 o3) ∧ W.cell? ⟨T, 4, none⟩ = some (.int .u64 o4) ∧ W.cell? ⟨T, 5, none⟩ = some (.int .u64 o5) ∧ W.cell? ⟨T, 6, none⟩ = some (.int .u64 o6) ∧ W.cell? ⟨T, 7, none⟩ = some (.int .u64 o7) := fun W hW => by
    have k1 := (hW.block T hTlt).trans kt
    have k2 := (hW.block w.heap.size (by have := bel3.size; omega)).trans ((bel3.block w.heap.size hlt0).trans k0)
    exact ⟨fun j v hj => by rw [Nat.zero_add, cellOf k2, List.getElem?_toArray]; exact hj, (cellOf (j := 0) k1).trans rfl, (cellOf (j := 1) k1).trans rfl, (cellOf (j := 2) k1).trans rfl, (cellOf (j := 3) k1).trans rfl, (cellOf (j := 4) k1).trans rfl, (cellOf (j := 5) k1).trans rfl, (cellOf (j := 6) k1).trans rfl, (cellOf (j := 7) k1).trans rfl⟩
  conv => arg 2; whnf
  obtain ⟨i0, hi, hz0, hz1, hz2⟩ := info_parts Tryz.info35
  have y2 : Below w3.heap.size w3 w4.drew := y1.drew
  refine wp_region_noPanic ?_
  refine wp_region_held_drew (S := fun w' => w'.rangeAt w.heap.size 0 [.int .u64 a0, .int .u64 a1, .int .u64 a2, .int .u64 a3, .int .u64 a4, .int .u64 a5, .int .u64 a6, .int .u64 a7, .int .u64 b0, .int .u64 b1, .int .u64 b2, .int .u64 b3, .int .u64 b4, .int .u64 b5, .int .u64 b6, .int .u64 b7, .bool cb, .slice ca cn cc, .int .u32 cl, .bool db, .slice da dn dc, .int .u32 dl] ∧ w'.cell? ⟨T, 0, none⟩ = some (.int .u64 o0) ∧ w'.cell? ⟨T, 1, none⟩ = some (.int .u64 o1) ∧ w'.cell? ⟨T, 2, none⟩ = some (.int .u64 o2) ∧ w'.cell? ⟨T, 3, none⟩ = some (.int .u64 o3) ∧ w'.cell? ⟨T, 4, none⟩ = some (.int .u64 o4) ∧ w'.cell? ⟨T, 5, none⟩ = some (.int .u64 o5) ∧ w'.cell? ⟨T, 6, none⟩ = some (.int .u64 o6) ∧ w'.cell? ⟨T, 7, none⟩ = some (.int .u64 o7)) (by kernel_rfl) (allS _ y2) (fun hHeld => ?_)
  refine' wpAnyH_take (i := 0) (oi := _) (v := _) rfl (by kernel_rfl) (by kernel_rfl) (by kernel_rfl) (fun _ _ _ h => h)
    (yieldsIf_load_mid (by rfl) _ _ rfl w.heap.size 0 rfl [.int .u64 a0, .int .u64 a1, .int .u64 a2, .int .u64 a3, .int .u64 a4, .int .u64 a5, .int .u64 a6, .int .u64 a7, .int .u64 b0, .int .u64 b1, .int .u64 b2, .int .u64 b3, .int .u64 b4, .int .u64 b5, .int .u64 b6, .int .u64 b7, .bool cb, .slice ca cn cc, .int .u32 cl, .bool db, .slice da dn dc, .int .u32 dl] _ (fun _ h => h.1) Tryz.underlying30 rfl (by kernel_rfl)) (by assumption) ?_
  try simp only [Act.put, List.setIfInBounds_toArray, List.set_cons_zero, List.set_cons_succ]
  refine wpAnyH_take (i := 2) (oi := _) (v := ?_) rfl (by kernel_rfl) (by kernel_rfl) (by kernel_rfl) (fun _ _ _ h => h) (Or.inl ⟨by rfl, ?_⟩) (by assumption) ?_
  rotate_left
  · intro U hSw
    obtain ⟨hL, hSw⟩ := hSw
    clear hL
    go_simp
    try with_reducible rfl
  try simp only [Act.put, List.setIfInBounds_toArray, List.set_cons_zero, List.set_cons_succ]
  refine wpAnyH_take (i := 3) (oi := _) (v := ?_) rfl (by kernel_rfl) (by kernel_rfl) (by kernel_rfl) (fun _ _ _ h => h) (Or.inl ⟨by rfl, ?_⟩) (by assumption) ?_
  rotate_left
  · intro U hSw
    obtain ⟨hL, hSw⟩ := hSw
    clear hL
    go_simp
    try with_reducible rfl
  try simp only [Act.put, List.setIfInBounds_toArray, List.set_cons_zero, List.set_cons_succ]
  refine wpAnyH_take (i := 4) (oi := _) (v := ?_) rfl (by kernel_rfl) (by kernel_rfl) (by kernel_rfl) (fun _ _ _ h => h) (Or.inl ⟨by rfl, ?_⟩) (by assumption) ?_
  rotate_left
  · intro U hSw
    obtain ⟨hL, hSw⟩ := hSw
    clear hL
    go_simp
    try with_reducible rfl
  try simp only [Act.put, List.setIfInBounds_toArray, List.set_cons_zero, List.set_cons_succ]
  refine wpAnyH_take (i := 10) (oi := _) (v := ?_) rfl (by kernel_rfl) (by kernel_rfl) (by kernel_rfl) (fun _ _ _ h => h) (Or.inl ⟨by rfl, ?_⟩) (by assumption) ?_
  rotate_left
  · intro U hSw
    obtain ⟨hL, hSw⟩ := hSw
    clear hL
    go_simp
    try with_reducible rfl
  try simp only [Act.put, List.setIfInBounds_toArray, List.set_cons_zero, List.set_cons_succ]
  refine wpAnyH_ready (rs := [1]) (by kernel_rfl) (by simp) ?_
  refine AllReadyH.cons (o := _) rfl (fun K hK => ?_) AllReadyH.nil
  go_simp
  go_at_call 9
  with_reducible refine (hPairs _ y2).mono ?_
  rintro e w5 ⟨r5, rfl, ⟨ps, hps, hpl, hown⟩, hb5⟩
  have y3 := next0 y2 hb5
  have O5 := own_low hown y2.size
  obtain ⟨g, cap, rfl, hg0, hg1⟩ := O5.form (by decide)
  go_wp2_with fail
  refine hK.out _ _ (allS _ y3) (fun hHeld => ?_)
  clear hK K
  try simp only [Act.put, List.setIfInBounds_toArray, List.set_cons_zero, List.set_cons_succ]
  refine wpAnyH_ready (rs := [5]) (by kernel_rfl) (by simp) ?_
  refine AllReadyH.cons (o := _) rfl (fun K hK => ?_) AllReadyH.nil
  go_simp
  go_at_call 8
  with_reducible refine (hRefM _).mono ?_
  rintro e w6 ⟨r6, rfl, rfl, hb6⟩
  have y4 := next0 y3 hb6
  have O6 := own_of_block O5 (fun g _ hg => hb6.block g hg)
  go_wp2_with fail
  refine hK.out _ _ (allS _ y4) (fun hHeld => ?_)
  clear hK K
  try simp only [Act.put, List.setIfInBounds_toArray, List.set_cons_zero, List.set_cons_succ]
  refine wpAnyH_take (i := 6) (oi := _) (v := ?_) rfl (by kernel_rfl) (by kernel_rfl) (by kernel_rfl) (fun _ _ _ h => h) (Or.inl ⟨by rfl, ?_⟩) (by assumption) ?_
  rotate_left
  · intro U hSw
    obtain ⟨hL, hSw⟩ := hSw
    clear hL
    go_simp
    try with_reducible rfl
  try simp only [Act.put, List.setIfInBounds_toArray, List.set_cons_zero, List.set_cons_succ]
  refine wpAnyH_ready (rs := [7]) (by kernel_rfl) (by simp) ?_
  refine AllReadyH.cons (o := _) rfl (fun K hK => ?_) AllReadyH.nil
  go_simp
  refine hK.out _ _ (allS _ (y4.alloc y4.size _)) (fun hHeld => ?_)
  clear hK K
  try simp only [Act.put, List.setIfInBounds_toArray, List.set_cons_zero, List.set_cons_succ]
  refine wpAnyH_ready (rs := [8]) (by kernel_rfl) (by simp) ?_
  refine AllReadyH.cons (o := _) rfl (fun K hK => ?_) AllReadyH.nil
  refine step_append_lies _ (by rfl) _ _ 33 (by rfl) w3.heap.size 35 i0 (.agg #[.int .u64 0, .int .u64 0, .int .u64 0, .int .u64 0, .int .u64 0, .int .u64 0, .int .u64 0, .int .u64 0, .int .u64 0, .int .u64 0, .int .u64 0, .int .u64 0, .int .u64 0, .int .u64 0, .int .u64 0, .int .u64 0]) 16 128 Tryz.underlying33 hi hz0 hz1 hz2 rfl (by decide) _ _ _ (by rfl) (O6.alloc _) ⟨w6.heap.size, 0, none⟩ 1 1 [.int .u64 o0, .int .u64 o1, .int .u64 o2, .int .u64 o3, .int .u64 o4, .int .u64 o5, .int .u64 o6, .int .u64 o7, .int .u64 m0, .int .u64 m1, .int .u64 m2, .int .u64 m3, .int .u64 m4, .int .u64 m5, .int .u64 m6, .int .u64 m7] (by rfl) rfl (World.news_of_block (MapKept.heap_alloc w6 (.cells #[.int .u64 o0, .int .u64 o1, .int .u64 o2, .int .u64 o3, .int .u64 o4, .int .u64 o5, .int .u64 o6, .int .u64 o7, .int .u64 m0, .int .u64 m1, .int .u64 m2, .int .u64 m3, .int .u64 m4, .int .u64 m5, .int .u64 m6, .int .u64 m7] 35)).1) one16 (by decide) (by unfold maxLen; omega) (by omega) (by have := y4.size; simp; omega) (w6.heap.size + 1) (by simp) ?_
  intro g7 cap7 w7 hown7 hgrow7 hat7 hlt7
  have y5 := below_append y4 O6 hgrow7
  refine hK.out _ _ (allS _ y5) (fun hHeld => ?_)
  clear hK K
  try simp only [Act.put, List.setIfInBounds_toArray, List.set_cons_zero, List.set_cons_succ]
  refine wpAnyH_take (i := 9) (oi := _) (v := ?_) rfl (by kernel_rfl) (by kernel_rfl) (by kernel_rfl) (fun _ _ _ h => h) (Or.inl ⟨by rfl, ?_⟩) (by assumption) ?_
  rotate_left
  · intro U hSw
    obtain ⟨hL, hSw⟩ := hSw
    clear hL
    go_simp
    try with_reducible rfl
  try simp only [Act.put, List.setIfInBounds_toArray, List.set_cons_zero, List.set_cons_succ]
  refine wpAnyH_done (by kernel_rfl) ?_ _
  refine NoPanic.normal ?_
  have hqs : ∀ p ∈ ps ++ [(n, IntKind.i64.wrap (-n))], fit p.1 ∧ fit p.2 := by
    intro p hp
    rw [List.mem_append] at hp
    rcases hp with hp | hp
    · exact hps p hp
    · rw [List.mem_singleton] at hp; subst hp; exact ⟨fN, fM⟩
  have hl7 : (ps ++ [(n, IntKind.i64.wrap (-n))]).length = 7 := by rw [List.length_append, hpl]; rfl
  have hown8 : w7.ownsRow w3.heap.size 35 16 (.slice (some ⟨g7, 0, none⟩) 7 cap7) 7 ((ps ++ [(n, IntKind.i64.wrap (-n))]).flatMap cellsP) := by
    have e : (ps ++ [(n, IntKind.i64.wrap (-n))]).flatMap cellsP = ps.flatMap cellsP ++ [.int .u64 o0, .int .u64 o1, .int .u64 o2, .int .u64 o3, .int .u64 o4, .int .u64 o5, .int .u64 o6, .int .u64 o7, .int .u64 m0, .int .u64 m1, .int .u64 m2, .int .u64 m3, .int .u64 m4, .int .u64 m5, .int .u64 m6, .int .u64 m7] := by
      rw [List.flatMap_append]
      simp only [List.flatMap_cons, List.flatMap_nil, List.append_nil, cellsP, W8_of HO.out, W8_of HM.out]
      rfl
    rw [e]
    exact hown7
  exact hK _ _ _ _ _ _ _ _ _ _ _ _ hqs hl7 hown8 y5
end Go.Proofs.YtedhjlkidcojhaaGreat
