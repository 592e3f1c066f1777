/-
  Wide random numbers: the greatest one.
-/
import Derived.Test.YtfeapgpjchjphaaGreatMWG
import Derived.Test.YtfeapgpjchjphaaGreatMR
import Derived.Deep.MidRow
set_option linter.all false
namespace Go.Proofs.YtfeapgpjchjphaaGreat
open Go Go.Rx Go.RowKit Go.Big Go.Shelf
attribute [local instance] noAv
noncomputable def swideR1 : Code := ((Tryz.f38.body.bind (findRs 1)).getD .skip)
theorem fill8 {U : World} {B : Nat} (h : U.heap[B]? = some (.cells #[.int .u64 0, .int .u64 0, .int .u64 0, .int .u64 0, .int .u64 0, .int .u64 0, .int .u64 0, .int .u64 0] 26)) (u0 u1 u2 u3 u4 u5 u6 u7 : Int) : (U.setCells B 0 [.int .u64 u0, .int .u64 u1, .int .u64 u2, .int .u64 u3, .int .u64 u4, .int .u64 u5, .int .u64 u6, .int .u64 u7]).heap[B]? = some (.cells #[.int .u64 u0, .int .u64 u1, .int .u64 u2, .int .u64 u3, .int .u64 u4, .int .u64 u5, .int .u64 u6, .int .u64 u7] 26) := set8_same h
theorem setCells_far {U : World} {B T : Nat} (h : T ≠ B) (u0 u1 u2 u3 u4 u5 u6 u7 : Int) : (U.setCells B 0 [.int .u64 u0, .int .u64 u1, .int .u64 u2, .int .u64 u3, .int .u64 u4, .int .u64 u5, .int .u64 u6, .int .u64 u7]).heap[T]? = U.heap[T]? := heap_set8 h _ _ _ _ _ _ _ _
theorem below_fill {w0 U : World} {B : Nat} (h : Below w0.heap.size w0 U) (hB : w0.heap.size ≤ B) (u0 u1 u2 u3 u4 u5 u6 u7 : Int) : Below w0.heap.size w0 (U.setCells B 0 [.int .u64 u0, .int .u64 u1, .int .u64 u2, .int .u64 u3, .int .u64 u4, .int .u64 u5, .int .u64 u6, .int .u64 u7]) := Below.set8 h hB _ _ _ _ _ _ _ _
theorem there8 {U : World} {B : Nat} (h : U.heap[B]? = some (.cells #[.int .u64 0, .int .u64 0, .int .u64 0, .int .u64 0, .int .u64 0, .int .u64 0, .int .u64 0, .int .u64 0] 26)) : U.there B 0 8 := fun j hj => by
  rw [Nat.zero_add]
  refine ⟨?_, frozenOf h⟩
  rw [cellOf h]
  match j, hj with
  | 0, _ => rfl
  | 1, _ => rfl
  | 2, _ => rfl
  | 3, _ => rfl
  | 4, _ => rfl
  | 5, _ => rfl
  | 6, _ => rfl
  | 7, _ => rfl
set_option maxHeartbeats 3200000 in
set_option maxRecDepth 100000 in
theorem swide_r1 {W : World} {T : Nat} {x : Int} {b0 b1 b2 b3 b4 b5 b6 b7 g0 g1 g2 g3 g4 g5 g6 g7 : Int} (hx : fit x) (hy : fit (x - 1)) (hbx : Go.Proofs.YtfeapgpjchjphaaGreat.W x = .agg #[.int .u64 b0, .int .u64 b1, .int .u64 b2, .int .u64 b3, .int .u64 b4, .int .u64 b5, .int .u64 b6, .int .u64 b7]) (hby : Go.Proofs.YtfeapgpjchjphaaGreat.W (x - 1) = .agg #[.int .u64 g0, .int .u64 g1, .int .u64 g2, .int .u64 g3, .int .u64 g4, .int .u64 g5, .int .u64 g6, .int .u64 g7]) (hT : W.heap[T]? = some (.cells #[.int .u64 b0, .int .u64 b1, .int .u64 b2, .int .u64 b3, .int .u64 b4, .int .u64 b5, .int .u64 b6, .int .u64 b7] 26))
    (c0 c1 c2 c4 c5 u6 u7 c8 u9 u10 u11 u12 u13 u14 c15 c16 c17 c18 c19 c20 c21 : Value) (ds : List Deferred) (K' : Act → World → Prop) (Q' : Exit → Act → World → Prop)
    (hKK : ∀ (B6 : Nat) (v9 v10 v11 v12 v13 : Value) (W' : World), Below W.heap.size W W' → W.heap.size ≤ B6 → W'.heap[B6]? = some (.cells #[.int .u64 g0, .int .u64 g1, .int .u64 g2, .int .u64 g3, .int .u64 g4, .int .u64 g5, .int .u64 g6, .int .u64 g7] 26) → K' ⟨#[c0, c1, c2, .pointer (some ⟨T, 0, none⟩), c4, c5, .pointer (some ⟨B6, 0, none⟩), .int .i64 0, c8, v9, v10, v11, v12, v13, .int .i64 0, c15, c16, c17, c18, c19, c20, c21], ds⟩ W') :
    Code.wp Tryz.prog swideR1 (Exit.then K' Q') ⟨#[c0, c1, c2, .pointer (some ⟨T, 0, none⟩), c4, c5, u6, u7, c8, u9, u10, u11, u12, u13, u14, c15, c16, c17, c18, c19, c20, c21], ds⟩ W := by
  have HKK := Lib.hid hKK
  clear hKK
  have hOf := fun U => gets_of (f_Of 1 (by decide) (by decide)) U
  have hSub := fun U => gets_of (f_Sub2 x 1 hx (fit_i64 (by decide) (by decide))) U
  obtain ⟨o0, o1, o2, o3, o4, o5, o6, o7, -, -, ho⟩ := words_of (fit_i64 (n := 1) (by decide) (by decide))
  have er : resV (x - 1) (fit (x - 1)) = .tuple #[.agg #[.int .u64 g0, .int .u64 g1, .int .u64 g2, .int .u64 g3, .int .u64 g4, .int .u64 g5, .int .u64 g6, .int .u64 g7], .int .i64 0] := by unfold resV outV; rw [if_pos hy, hby]
  rw [er, ho, hbx] at hSub
  rw [ho] at hOf
  clear er ho hbx hby hx hy
  have lT := ltH hT
  have hr : ∀ U, Below W.heap.size W U → U.rangeAt T 0 [.int .u64 b0, .int .u64 b1, .int .u64 b2, .int .u64 b3, .int .u64 b4, .int .u64 b5, .int .u64 b6, .int .u64 b7] := fun U hU j v hj => by rw [Nat.zero_add, cellOf (keepH hT hU), List.getElem?_toArray]; exact hj
  conv => arg 2; whnf
  refine wp_region_noPanic ?_
  refine wp_region_held_drew (S := fun w' => Below W.heap.size W w') (by kernel_rfl) (Below.refl _ _).drew (fun hHeld => ?_)
  have y0 := hHeld
  clear hHeld
  generalize W.drew = V at *
  refine' wpAnyH_take (i := 0) (oi := _) (v := _) rfl (by kernel_rfl) (by kernel_rfl) (by kernel_rfl) (fun _ _ _ h => h)
    (yieldsIf_load_mid (by rfl) _ _ rfl T 0 rfl [.int .u64 b0, .int .u64 b1, .int .u64 b2, .int .u64 b3, .int .u64 b4, .int .u64 b5, .int .u64 b6, .int .u64 b7] _ (fun U hU => hr U hU) Tryz.underlying26 rfl (by kernel_rfl)) (by assumption) ?_
  try simp only [Act.put, List.setIfInBounds_toArray, List.set_cons_zero, List.set_cons_succ]
  clear hr hT
  refine wpAnyH_ready (rs := [1, 6]) (by kernel_rfl) (by simp) ?_
  refine AllReadyH.cons (o := _) rfl (fun K hK => ?_) (AllReadyH.cons (o := _) rfl (fun K hK => ?_) AllReadyH.nil)
  · go_simp
    go_at_call 17
    with_reducible refine (hOf _).mono ?_
    rintro e w1 ⟨r, rfl, rfl, hb1⟩
    have y1 := next0 y0 hb1
    go_wp2_with fail
    refine hK.out _ _ (y1) (fun hHeld => ?_)
    clear hK K
    try simp only [Act.put, List.setIfInBounds_toArray, List.set_cons_zero, List.set_cons_succ]
    refine wpAnyH_ready (rs := [2, 6]) (by kernel_rfl) (by simp) ?_
    refine AllReadyH.cons (o := _) rfl (fun K hK => ?_) (AllReadyH.cons (o := _) rfl (fun K hK => ?_) AllReadyH.nil)
    · go_simp
      go_at_call 62
      with_reducible refine (hSub _).mono ?_
      rintro e w2 ⟨r, rfl, rfl, hb2⟩
      have y2 := next0 y1 hb2
      go_wp2_with fail
      refine hK.out _ _ (y2) (fun hHeld => ?_)
      clear hK K
      try simp only [Act.put, List.setIfInBounds_toArray, List.set_cons_zero, List.set_cons_succ]
      refine wpAnyH_take (i := 3) (oi := _) (v := ?_) rfl (by kernel_rfl) (by kernel_rfl) (by kernel_rfl) (fun _ _ _ h => h) (Or.inl ⟨by rfl, ?_⟩) (by assumption) ?_
      rotate_left
      · intro U hSw
        clear hSw
        go_simp
        try with_reducible rfl
      try simp only [Act.put, List.setIfInBounds_toArray, List.set_cons_zero, List.set_cons_succ]
      refine wpAnyH_take (i := 4) (oi := _) (v := ?_) rfl (by kernel_rfl) (by kernel_rfl) (by kernel_rfl) (fun _ _ _ h => h) (Or.inl ⟨by rfl, ?_⟩) (by assumption) ?_
      rotate_left
      · intro U hSw
        clear hSw
        go_simp
        try with_reducible rfl
      try simp only [Act.put, List.setIfInBounds_toArray, List.set_cons_zero, List.set_cons_succ]
      refine wpAnyH_take (i := 5) (oi := _) (v := ?_) rfl (by kernel_rfl) (by kernel_rfl) (by kernel_rfl) (fun _ _ _ h => h) (Or.inl ⟨by rfl, ?_⟩) (by assumption) ?_
      rotate_left
      · intro U hSw
        clear hSw
        go_simp
        try with_reducible rfl
      try simp only [Act.put, List.setIfInBounds_toArray, List.set_cons_zero, List.set_cons_succ]
      refine wpAnyH_ready (rs := [6]) (by kernel_rfl) (by simp) ?_
      refine AllReadyH.cons (o := _) rfl (fun K hK => ?_) AllReadyH.nil
      go_simp
      refine hK.out _ _ (y2.alloc y2.size _) (fun hHeld => ?_)
      clear hK K
      try simp only [Act.put, List.setIfInBounds_toArray, List.set_cons_zero, List.set_cons_succ]
      refine wpAnyH_ready (rs := [7]) (by kernel_rfl) (by simp) ?_
      refine AllReadyH.cons (o := _) rfl (fun K hK => ?_) AllReadyH.nil
      go_simp
      refine hK.out _ _ (y2.alloc y2.size _) (fun hHeld => ?_)
      clear hK K
      try simp only [Act.put, List.setIfInBounds_toArray, List.set_cons_zero, List.set_cons_succ]
      refine wpAnyH_take (i := 8) (oi := _) (v := ?_) rfl (by kernel_rfl) (by kernel_rfl) (by kernel_rfl) (fun _ _ _ h => h) (Or.inl ⟨by rfl, ?_⟩) (by assumption) ?_
      rotate_left
      · intro U hSw
        clear hSw
        go_simp
        try with_reducible rfl
      try simp only [Act.put, List.setIfInBounds_toArray, List.set_cons_zero, List.set_cons_succ]
      refine wpAnyH_done (by kernel_rfl) ?_ _
      refine NoPanic.normal ?_
      exact HKK.out w2.heap.size _ _ _ _ _ _ (y2.alloc y2.size _) y2.size (MapKept.heap_alloc w2 _).1
    · go_simp
      have kz := (MapKept.heap_alloc w1 (.cells #[.int .u64 0, .int .u64 0, .int .u64 0, .int .u64 0, .int .u64 0, .int .u64 0, .int .u64 0, .int .u64 0] 26)).1
      have hm := y1.size
      have y3 : Below W.heap.size W (w1.alloc (.cells #[.int .u64 0, .int .u64 0, .int .u64 0, .int .u64 0, .int .u64 0, .int .u64 0, .int .u64 0, .int .u64 0] 26)) := y1.alloc hm _
      generalize hM : w1.heap.size = M at *
      clear hM
      generalize w1.alloc (.cells #[.int .u64 0, .int .u64 0, .int .u64 0, .int .u64 0, .int .u64 0, .int .u64 0, .int .u64 0, .int .u64 0] 26) = w3 at *
      refine hK.out _ _ (y3) (fun hHeld => ?_)
      clear hK K
      try simp only [Act.put, List.setIfInBounds_toArray, List.set_cons_zero, List.set_cons_succ]
      refine wpAnyH_ready (rs := [2]) (by kernel_rfl) (by simp) ?_
      refine AllReadyH.cons (o := _) rfl (fun K hK => ?_) AllReadyH.nil
      go_simp
      go_at_call 62
      with_reducible refine (hSub _).mono ?_
      rintro e w4 ⟨r, rfl, rfl, hb4⟩
      have y4 := next0 y3 hb4
      have kz := keepH kz hb4
      go_wp2_with fail
      refine hK.out _ _ (y4) (fun hHeld => ?_)
      clear hK K
      try simp only [Act.put, List.setIfInBounds_toArray, List.set_cons_zero, List.set_cons_succ]
      refine wpAnyH_take (i := 3) (oi := _) (v := ?_) rfl (by kernel_rfl) (by kernel_rfl) (by kernel_rfl) (fun _ _ _ h => h) (Or.inl ⟨by rfl, ?_⟩) (by assumption) ?_
      rotate_left
      · intro U hSw
        clear hSw
        go_simp
        try with_reducible rfl
      try simp only [Act.put, List.setIfInBounds_toArray, List.set_cons_zero, List.set_cons_succ]
      refine wpAnyH_take (i := 4) (oi := _) (v := ?_) rfl (by kernel_rfl) (by kernel_rfl) (by kernel_rfl) (fun _ _ _ h => h) (Or.inl ⟨by rfl, ?_⟩) (by assumption) ?_
      rotate_left
      · intro U hSw
        clear hSw
        go_simp
        try with_reducible rfl
      try simp only [Act.put, List.setIfInBounds_toArray, List.set_cons_zero, List.set_cons_succ]
      refine wpAnyH_take (i := 5) (oi := _) (v := ?_) rfl (by kernel_rfl) (by kernel_rfl) (by kernel_rfl) (fun _ _ _ h => h) (Or.inl ⟨by rfl, ?_⟩) (by assumption) ?_
      rotate_left
      · intro U hSw
        clear hSw
        go_simp
        try with_reducible rfl
      try simp only [Act.put, List.setIfInBounds_toArray, List.set_cons_zero, List.set_cons_succ]
      refine wpAnyH_ready (rs := [7]) (by kernel_rfl) (by simp) ?_
      refine AllReadyH.cons (o := _) rfl (fun K hK => ?_) AllReadyH.nil
      obtain ⟨z0, z1, z2, z3, z4, z5, z6, z7⟩ := eightC kz
      have fz : ∀ j, w4.frozen? ⟨M, j, none⟩ = false := fun j => frozenOf kz
      have hfin := Below.set8 y4 hm (.int .u64 g0) (.int .u64 g1) (.int .u64 g2) (.int .u64 g3) (.int .u64 g4) (.int .u64 g5) (.int .u64 g6) (.int .u64 g7)
      have hkz := set8_same (u0 := .int .u64 g0) (u1 := .int .u64 g1) (u2 := .int .u64 g2) (u3 := .int .u64 g3) (u4 := .int .u64 g4) (u5 := .int .u64 g5) (u6 := .int .u64 g6) (u7 := .int .u64 g7) kz
      clear kz
      go_simp
      refine hK.out _ _ (hfin) (fun hHeld => ?_)
      clear hK K
      try simp only [Act.put, List.setIfInBounds_toArray, List.set_cons_zero, List.set_cons_succ]
      refine wpAnyH_take (i := 8) (oi := _) (v := ?_) rfl (by kernel_rfl) (by kernel_rfl) (by kernel_rfl) (fun _ _ _ h => h) (Or.inl ⟨by rfl, ?_⟩) (by assumption) ?_
      rotate_left
      · intro U hSw
        clear hSw
        go_simp
        try with_reducible rfl
      try simp only [Act.put, List.setIfInBounds_toArray, List.set_cons_zero, List.set_cons_succ]
      refine wpAnyH_done (by kernel_rfl) ?_ _
      refine NoPanic.normal ?_
      exact HKK.out M _ _ _ _ _ _ hfin hm hkz
  · go_simp
    have kz := (MapKept.heap_alloc V (.cells #[.int .u64 0, .int .u64 0, .int .u64 0, .int .u64 0, .int .u64 0, .int .u64 0, .int .u64 0, .int .u64 0] 26)).1
    have hm := y0.size
    have y1 : Below W.heap.size W (V.alloc (.cells #[.int .u64 0, .int .u64 0, .int .u64 0, .int .u64 0, .int .u64 0, .int .u64 0, .int .u64 0, .int .u64 0] 26)) := y0.alloc hm _
    generalize hM : V.heap.size = M at *
    clear hM
    generalize V.alloc (.cells #[.int .u64 0, .int .u64 0, .int .u64 0, .int .u64 0, .int .u64 0, .int .u64 0, .int .u64 0, .int .u64 0] 26) = w1 at *
    refine hK.out _ _ (y1) (fun hHeld => ?_)
    clear hK K
    try simp only [Act.put, List.setIfInBounds_toArray, List.set_cons_zero, List.set_cons_succ]
    refine wpAnyH_ready (rs := [1]) (by kernel_rfl) (by simp) ?_
    refine AllReadyH.cons (o := _) rfl (fun K hK => ?_) AllReadyH.nil
    go_simp
    go_at_call 17
    with_reducible refine (hOf _).mono ?_
    rintro e w2 ⟨r, rfl, rfl, hb2⟩
    have y2 := next0 y1 hb2
    have kz := keepH kz hb2
    go_wp2_with fail
    refine hK.out _ _ (y2) (fun hHeld => ?_)
    clear hK K
    try simp only [Act.put, List.setIfInBounds_toArray, List.set_cons_zero, List.set_cons_succ]
    refine wpAnyH_ready (rs := [2]) (by kernel_rfl) (by simp) ?_
    refine AllReadyH.cons (o := _) rfl (fun K hK => ?_) AllReadyH.nil
    go_simp
    go_at_call 62
    with_reducible refine (hSub _).mono ?_
    rintro e w3 ⟨r, rfl, rfl, hb3⟩
    have y3 := next0 y2 hb3
    have kz := keepH kz hb3
    go_wp2_with fail
    refine hK.out _ _ (y3) (fun hHeld => ?_)
    clear hK K
    try simp only [Act.put, List.setIfInBounds_toArray, List.set_cons_zero, List.set_cons_succ]
    refine wpAnyH_take (i := 3) (oi := _) (v := ?_) rfl (by kernel_rfl) (by kernel_rfl) (by kernel_rfl) (fun _ _ _ h => h) (Or.inl ⟨by rfl, ?_⟩) (by assumption) ?_
    rotate_left
    · intro U hSw
      clear hSw
      go_simp
      try with_reducible rfl
    try simp only [Act.put, List.setIfInBounds_toArray, List.set_cons_zero, List.set_cons_succ]
    refine wpAnyH_take (i := 4) (oi := _) (v := ?_) rfl (by kernel_rfl) (by kernel_rfl) (by kernel_rfl) (fun _ _ _ h => h) (Or.inl ⟨by rfl, ?_⟩) (by assumption) ?_
    rotate_left
    · intro U hSw
      clear hSw
      go_simp
      try with_reducible rfl
    try simp only [Act.put, List.setIfInBounds_toArray, List.set_cons_zero, List.set_cons_succ]
    refine wpAnyH_take (i := 5) (oi := _) (v := ?_) rfl (by kernel_rfl) (by kernel_rfl) (by kernel_rfl) (fun _ _ _ h => h) (Or.inl ⟨by rfl, ?_⟩) (by assumption) ?_
    rotate_left
    · intro U hSw
      clear hSw
      go_simp
      try with_reducible rfl
    try simp only [Act.put, List.setIfInBounds_toArray, List.set_cons_zero, List.set_cons_succ]
    refine wpAnyH_ready (rs := [7]) (by kernel_rfl) (by simp) ?_
    refine AllReadyH.cons (o := _) rfl (fun K hK => ?_) AllReadyH.nil
    obtain ⟨z0, z1, z2, z3, z4, z5, z6, z7⟩ := eightC kz
    have fz : ∀ j, w3.frozen? ⟨M, j, none⟩ = false := fun j => frozenOf kz
    have hfin := Below.set8 y3 hm (.int .u64 g0) (.int .u64 g1) (.int .u64 g2) (.int .u64 g3) (.int .u64 g4) (.int .u64 g5) (.int .u64 g6) (.int .u64 g7)
    have hkz := set8_same (u0 := .int .u64 g0) (u1 := .int .u64 g1) (u2 := .int .u64 g2) (u3 := .int .u64 g3) (u4 := .int .u64 g4) (u5 := .int .u64 g5) (u6 := .int .u64 g6) (u7 := .int .u64 g7) kz
    clear kz
    go_simp
    refine hK.out _ _ (hfin) (fun hHeld => ?_)
    clear hK K
    try simp only [Act.put, List.setIfInBounds_toArray, List.set_cons_zero, List.set_cons_succ]
    refine wpAnyH_take (i := 8) (oi := _) (v := ?_) rfl (by kernel_rfl) (by kernel_rfl) (by kernel_rfl) (fun _ _ _ h => h) (Or.inl ⟨by rfl, ?_⟩) (by assumption) ?_
    rotate_left
    · intro U hSw
      clear hSw
      go_simp
      try with_reducible rfl
    try simp only [Act.put, List.setIfInBounds_toArray, List.set_cons_zero, List.set_cons_succ]
    refine wpAnyH_done (by kernel_rfl) ?_ _
    refine NoPanic.normal ?_
    exact HKK.out M _ _ _ _ _ _ hfin hm hkz
end Go.Proofs.YtfeapgpjchjphaaGreat
