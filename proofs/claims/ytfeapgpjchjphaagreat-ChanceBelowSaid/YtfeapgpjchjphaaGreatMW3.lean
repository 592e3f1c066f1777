/-
  Below and Wide of package chance: the four limits of the law's second loop.
  Wide of package chance agrees with the reference, and Below does: the law ChanceBelow answers true.
  Wide of package chance agrees with the reference, and Below does: the law ChanceBelow answers true.
-/
import Derived.Test.YtfeapgpjchjphaaGreatMWL
import Derived.Test.YtfeapgpjchjphaaGreatMWR
import Derived.Test.YtfeapgpjchjphaaGreatMN
import Derived.Test.YtfeapgpjchjphaaGreatMR
import Derived.Deep.MidRow
import Derived.Test.YtfeapgpjchjphaaGreatMEH
import Derived.Lib.Hide
set_option linter.all false
namespace Go.Proofs.YtfeapgpjchjphaaGreat
open Go Go.Rx Go.RowKit Go.Big Go.Shelf
attribute [local instance] noAv
noncomputable def belowR11 : Code := ((Tryz.f3.body.bind (findRs 11)).getD .skip)
set_option maxHeartbeats 3200000 in
set_option maxRecDepth 100000 in
theorem below_r11 {W : World} {T6 T7 : Nat} {n : Int} {b : Bool} {bv : Value} {l : Int} {bits : List Int} {a0 a1 a2 a3 a4 a5 a6 a7 : Int} (n0 : -9223372036854775808 ≤ n) (n1 : n ≤ 9223372036854775807) (hd : ∀ U, Below W.heap.size W U → DraftOk U bv bits l)
    (h6 : W.heap[T6]? = some (.cells #[.int .u64 a0, .int .u64 a1, .int .u64 a2, .int .u64 a3, .int .u64 a4, .int .u64 a5, .int .u64 a6, .int .u64 a7] 26)) (h7 : W.heap[T7]? = some (.cells #[.bool b, bv, .int .u32 l] 30))
    (c0 c2 c3 c4 c5 c8 c9 c10 c11 c12 c13 c14 c15 c16 c17 c18 c19 c20 c21 c22 c23 c24 c25 c26 c27 c28 c29 c30 c31 c32 c33 c34 c35 c36 c37 c38 c39 c40 c41 c42 c43 c44 c45 c46 c47 c48 c49 c50 c51 c52 c53 c54 c55 c56 c57 c58 c59 c60 c61 c62 c63 c64 c65 c66 c67 c68 c69 c70 c71 c72 c73 c74 c75 c76 c77 c78 c79 c80 c81 c82 c83 c84 c85 c86 c87 c88 c89 c90 c91 c92 c93 c94 c95 c96 c97 c98 c99 c100 c101 c102 c103 c104 c105 c106 c107 c108 : Value) (ds : List Deferred) (K' : Act → World → Prop) (Q' : Exit → Act → World → Prop)
    (hKK : ∀ (x1 x2 : Int) (d0 d1 d2 d3 d4 d5 d6 d7 e0 e1 e2 e3 e4 e5 e6 e7 f0 f1 f2 f3 f4 f5 f6 f7 : Int) (v70 v71 v72 v73 v74 v75 v76 : Value) (W' : World), fit x1 → fit x2 → Go.Proofs.YtfeapgpjchjphaaGreat.W x1 = .agg #[.int .u64 d0, .int .u64 d1, .int .u64 d2, .int .u64 d3, .int .u64 d4, .int .u64 d5, .int .u64 d6, .int .u64 d7] → Go.Proofs.YtfeapgpjchjphaaGreat.W x2 = .agg #[.int .u64 e0, .int .u64 e1, .int .u64 e2, .int .u64 e3, .int .u64 e4, .int .u64 e5, .int .u64 e6, .int .u64 e7] → Go.Proofs.YtfeapgpjchjphaaGreat.W n = .agg #[.int .u64 f0, .int .u64 f1, .int .u64 f2, .int .u64 f3, .int .u64 f4, .int .u64 f5, .int .u64 f6, .int .u64 f7] → Below W.heap.size W W' → K' ⟨#[c0, .int .i64 n, c2, c3, c4, c5, .pointer (some ⟨T6, 0, none⟩), .pointer (some ⟨T7, 0, none⟩), c8, c9, c10, c11, c12, c13, c14, c15, c16, c17, c18, c19, c20, c21, c22, c23, c24, c25, c26, c27, c28, c29, c30, c31, c32, c33, c34, c35, c36, c37, c38, c39, c40, c41, c42, c43, c44, c45, c46, c47, c48, c49, c50, c51, c52, c53, c54, c55, c56, c57, c58, c59, c60, c61, c62, c63, c64, c65, c66, c67, c68, c69, v70, v71, v72, v73, v74, v75, v76, .agg #[.int .u64 a0, .int .u64 a1, .int .u64 a2, .int .u64 a3, .int .u64 a4, .int .u64 a5, .int .u64 a6, .int .u64 a7, .int .u64 d0, .int .u64 d1, .int .u64 d2, .int .u64 d3, .int .u64 d4, .int .u64 d5, .int .u64 d6, .int .u64 d7, .int .u64 e0, .int .u64 e1, .int .u64 e2, .int .u64 e3, .int .u64 e4, .int .u64 e5, .int .u64 e6, .int .u64 e7, .int .u64 f0, .int .u64 f1, .int .u64 f2, .int .u64 f3, .int .u64 f4, .int .u64 f5, .int .u64 f6, .int .u64 f7], .int .i64 0, c79, c80, c81, c82, c83, c84, c85, c86, c87, c88, c89, c90, c91, c92, c93, c94, c95, c96, c97, c98, c99, c100, c101, c102, c103, c104, c105, c106, c107, c108], ds⟩ W') :
    Code.wp Tryz.prog belowR11 (Exit.then K' Q') ⟨#[c0, .int .i64 n, c2, c3, c4, c5, .pointer (some ⟨T6, 0, none⟩), .pointer (some ⟨T7, 0, none⟩), c8, c9, c10, c11, c12, c13, c14, c15, c16, c17, c18, c19, c20, c21, c22, c23, c24, c25, c26, c27, c28, c29, c30, c31, c32, c33, c34, c35, c36, c37, c38, c39, c40, c41, c42, c43, c44, c45, c46, c47, c48, c49, c50, c51, c52, c53, c54, c55, c56, c57, c58, c59, c60, c61, c62, c63, c64, c65, c66, c67, c68, c69, c70, c71, c72, c73, c74, c75, c76, c77, c78, c79, c80, c81, c82, c83, c84, c85, c86, c87, c88, c89, c90, c91, c92, c93, c94, c95, c96, c97, c98, c99, c100, c101, c102, c103, c104, c105, c106, c107, c108], ds⟩ W := by
  have HKK := Lib.hid hKK
  clear hKK
  obtain ⟨f0, f1, f2, f3, f4, f5, f6, f7, -, -, ho⟩ := words_of (fit_i64 n0 n1)
  have hOf := fun U => refOf_c (w := U) n n0 n1
  rw [ho] at hOf
  have hW := fun U (h : Below W.heap.size W U) => draftWide_c (b := b) (hd U h)
  have hI : ∀ U, Below W.heap.size W U → Calls Tryz.prog 9 #[.agg #[.bool b, bv, .int .u32 l], .int .i64 130] U (Gets (fun _ r => AnyW r) U) := fun U h => by
    obtain ⟨p1, p2, p3, p4, p5⟩ := hd U h
    exact within_c 130 (.inr (.inr rfl)) p1 p2 p3 p4 p5
  clear hd
  have hr : ∀ U, Below W.heap.size W U → U.rangeAt T6 0 [.int .u64 a0, .int .u64 a1, .int .u64 a2, .int .u64 a3, .int .u64 a4, .int .u64 a5, .int .u64 a6, .int .u64 a7] := fun U hU j v hj => by rw [Nat.zero_add, cellOf (keepH h6 hU), List.getElem?_toArray]; exact hj
  have hr7 : ∀ U, Below W.heap.size W U → U.rangeAt T7 0 [.bool b, bv, .int .u32 l] := fun U hU j v hj => by rw [Nat.zero_add, cellOf (keepH h7 hU), List.getElem?_toArray]; exact hj
  clear h6 h7
  conv => arg 2; whnf
  refine wp_region_noPanic ?_
  refine wp_region_held_drew (S := fun w' => Below W.heap.size W w') (by kernel_rfl) (Below.refl _ _).drew (fun hHeld => ?_)
  have y0 := hHeld
  clear hHeld
  generalize W.drew = V at *
  refine' wpAnyH_take (i := 0) (oi := _) (v := _) rfl (by kernel_rfl) (by kernel_rfl) (by kernel_rfl) (fun _ _ _ h => h)
    (yieldsIf_load_mid (by rfl) _ _ rfl T6 0 rfl [.int .u64 a0, .int .u64 a1, .int .u64 a2, .int .u64 a3, .int .u64 a4, .int .u64 a5, .int .u64 a6, .int .u64 a7] _ (fun U hU => hr U hU) Tryz.underlying26 rfl (by kernel_rfl)) (by assumption) ?_
  try simp only [Act.put, List.setIfInBounds_toArray, List.set_cons_zero, List.set_cons_succ]
  refine' wpAnyH_take (i := 1) (oi := _) (v := _) rfl (by kernel_rfl) (by kernel_rfl) (by kernel_rfl) (fun _ _ _ h => h)
    (yieldsIf_load_mid (by rfl) _ _ rfl T7 0 rfl [.bool b, bv, .int .u32 l] _ (fun U hU => hr7 U hU) Tryz.underlying30 rfl (by kernel_rfl)) (by assumption) ?_
  try simp only [Act.put, List.setIfInBounds_toArray, List.set_cons_zero, List.set_cons_succ]
  refine' wpAnyH_take (i := 3) (oi := _) (v := _) rfl (by kernel_rfl) (by kernel_rfl) (by kernel_rfl) (fun _ _ _ h => h)
    (yieldsIf_load_mid (by rfl) _ _ rfl T7 0 rfl [.bool b, bv, .int .u32 l] _ (fun U hU => hr7 U hU) Tryz.underlying30 rfl (by kernel_rfl)) (by assumption) ?_
  try simp only [Act.put, List.setIfInBounds_toArray, List.set_cons_zero, List.set_cons_succ]
  clear hr hr7
  refine wpAnyH_take (i := 5) (oi := _) (v := ?_) rfl (by kernel_rfl) (by kernel_rfl) (by kernel_rfl) (fun _ _ _ h => h) (Or.inl ⟨by rfl, ?_⟩) (by assumption) ?_
  rotate_left
  · intro U hSw
    clear hSw
    go_simp
    try with_reducible rfl
  try simp only [Act.put, List.setIfInBounds_toArray, List.set_cons_zero, List.set_cons_succ]
  refine wpAnyH_take (i := 8) (oi := _) (v := ?_) rfl (by kernel_rfl) (by kernel_rfl) (by kernel_rfl) (fun _ _ _ h => h) (Or.inl ⟨by rfl, ?_⟩) (by assumption) ?_
  rotate_left
  · intro U hSw
    clear hSw
    go_simp
    try with_reducible rfl
  try simp only [Act.put, List.setIfInBounds_toArray, List.set_cons_zero, List.set_cons_succ]
  refine wpAnyH_ready (rs := [2]) (by kernel_rfl) (by simp) ?_
  refine AllReadyH.cons (o := _) rfl (fun K hK => ?_) AllReadyH.nil
  go_simp
  go_at_call 8
  refine (hW _ y0).mono ?_
  rintro e w1 ⟨r, rfl, ⟨x1, hx1, rfl⟩, hb1⟩
  have y1 := next0 y0 hb1
  obtain ⟨d0, d1, d2, d3, d4, d5, d6, d7, -, -, he1⟩ := words_of hx1
  rw [he1]
  go_wp2_with fail
  refine hK.out _ _ (y1) (fun hHeld => ?_)
  clear hK K
  try simp only [Act.put, List.setIfInBounds_toArray, List.set_cons_zero, List.set_cons_succ]
  refine wpAnyH_ready (rs := [4]) (by kernel_rfl) (by simp) ?_
  refine AllReadyH.cons (o := _) rfl (fun K hK => ?_) AllReadyH.nil
  go_simp
  go_at_call 9
  refine (hI _ y1).mono ?_
  rintro e w2 ⟨r, rfl, ⟨x2, hx2, rfl⟩, hb2⟩
  have y2 := next0 y1 hb2
  obtain ⟨e0, e1, e2, e3, e4, e5, e6, e7, -, -, he2⟩ := words_of hx2
  rw [he2]
  go_wp2_with fail
  refine hK.out _ _ (y2) (fun hHeld => ?_)
  clear hK K
  try simp only [Act.put, List.setIfInBounds_toArray, List.set_cons_zero, List.set_cons_succ]
  refine wpAnyH_ready (rs := [6]) (by kernel_rfl) (by simp) ?_
  refine AllReadyH.cons (o := _) rfl (fun K hK => ?_) AllReadyH.nil
  go_simp
  go_at_call 10
  refine (hOf _).mono ?_
  rintro e w3 ⟨r, rfl, rfl, hb3⟩
  have y3 := next0 y2 hb3
  go_wp2_with fail
  refine hK.out _ _ (y3) (fun hHeld => ?_)
  clear hK K
  try simp only [Act.put, List.setIfInBounds_toArray, List.set_cons_zero, List.set_cons_succ]
  refine wpAnyH_take (i := 7) (oi := _) (v := .agg #[.int .u64 a0, .int .u64 a1, .int .u64 a2, .int .u64 a3, .int .u64 a4, .int .u64 a5, .int .u64 a6, .int .u64 a7, .int .u64 d0, .int .u64 d1, .int .u64 d2, .int .u64 d3, .int .u64 d4, .int .u64 d5, .int .u64 d6, .int .u64 d7, .int .u64 e0, .int .u64 e1, .int .u64 e2, .int .u64 e3, .int .u64 e4, .int .u64 e5, .int .u64 e6, .int .u64 e7, .int .u64 f0, .int .u64 f1, .int .u64 f2, .int .u64 f3, .int .u64 f4, .int .u64 f5, .int .u64 f6, .int .u64 f7]) rfl (by kernel_rfl) (by kernel_rfl) (by kernel_rfl) (fun _ _ _ h => h) (Or.inl ⟨by rfl, fun U _ => by kernel_rfl⟩) (by assumption) ?_
  try simp only [Act.put, List.setIfInBounds_toArray, List.set_cons_zero, List.set_cons_succ]
  refine wpAnyH_done (by kernel_rfl) ?_ _
  refine NoPanic.normal ?_
  exact HKK.out _ _ _ _ _ _ _ _ _ _ _ _ _ _ _ _ _ _ _ _ _ _ _ _ _ _ _ _ _ _ _ _ _ _ hx1 hx2 he1 he2 ho y3
end Go.Proofs.YtfeapgpjchjphaaGreat
namespace Go.Proofs.YtfeapgpjchjphaaGreat
open Go Go.Rx Go.RowKit Go.Big Go.Shelf
attribute [local instance] noAv
theorem three_at (a b c : Int) (k : Nat) (hk : k < 3) (ha : a < 9223372036854775808) (hb : b < 9223372036854775808) (hc : c < 9223372036854775808) : ∃ x : Int, x < 9223372036854775808 ∧ ∀ U, (Instr.index 33 (.agg #[.int .i64 a, .int .i64 b, .int .i64 c]) (.int .i64 (k : Int))).run Tryz.prog U = .ok (.int .i64 x) U := by
  match k, hk with
  | 0, _ => exact ⟨a, ha, fun U => by kernel_rfl⟩
  | 1, _ => exact ⟨b, hb, fun U => by kernel_rfl⟩
  | 2, _ => exact ⟨c, hc, fun U => by kernel_rfl⟩
theorem four_at {x0 x1 x2 x3 a0 a1 a2 a3 a4 a5 a6 a7 d0 d1 d2 d3 d4 d5 d6 d7 e0 e1 e2 e3 e4 e5 e6 e7 f0 f1 f2 f3 f4 f5 f6 f7 : Int} (h0 : fit x0) (h1 : fit x1) (h2 : fit x2) (h3 : fit x3) (E0 : W x0 = .agg #[.int .u64 a0, .int .u64 a1, .int .u64 a2, .int .u64 a3, .int .u64 a4, .int .u64 a5, .int .u64 a6, .int .u64 a7]) (E1 : W x1 = .agg #[.int .u64 d0, .int .u64 d1, .int .u64 d2, .int .u64 d3, .int .u64 d4, .int .u64 d5, .int .u64 d6, .int .u64 d7]) (E2 : W x2 = .agg #[.int .u64 e0, .int .u64 e1, .int .u64 e2, .int .u64 e3, .int .u64 e4, .int .u64 e5, .int .u64 e6, .int .u64 e7]) (E3 : W x3 = .agg #[.int .u64 f0, .int .u64 f1, .int .u64 f2, .int .u64 f3, .int .u64 f4, .int .u64 f5, .int .u64 f6, .int .u64 f7]) (k : Nat) (hk : k < 4) : ∃ x : Int, fit x ∧ ∀ U, (Instr.index 39 (.agg #[.int .u64 a0, .int .u64 a1, .int .u64 a2, .int .u64 a3, .int .u64 a4, .int .u64 a5, .int .u64 a6, .int .u64 a7, .int .u64 d0, .int .u64 d1, .int .u64 d2, .int .u64 d3, .int .u64 d4, .int .u64 d5, .int .u64 d6, .int .u64 d7, .int .u64 e0, .int .u64 e1, .int .u64 e2, .int .u64 e3, .int .u64 e4, .int .u64 e5, .int .u64 e6, .int .u64 e7, .int .u64 f0, .int .u64 f1, .int .u64 f2, .int .u64 f3, .int .u64 f4, .int .u64 f5, .int .u64 f6, .int .u64 f7]) (.int .i64 (k : Int))).run Tryz.prog U = .ok (W x) U := by
  match k, hk with
  | 0, _ => exact ⟨x0, h0, fun U => by rw [E0]; kernel_rfl⟩
  | 1, _ => exact ⟨x1, h1, fun U => by rw [E1]; kernel_rfl⟩
  | 2, _ => exact ⟨x2, h2, fun U => by rw [E2]; kernel_rfl⟩
  | 3, _ => exact ⟨x3, h3, fun U => by rw [E3]; kernel_rfl⟩
theorem belowQ_shape {s n : Int} {r : Value} (h : belowQ s n r) : ∃ v s' e, r = .tuple #[.int .i64 v, .agg #[.int .u64 s'], .int .i64 e] := by
  rcases h with ⟨_, rfl⟩ | ⟨_, ⟨i, _, _, _, rfl⟩ | ⟨_, rfl⟩⟩
  · exact ⟨_, _, _, rfl⟩
  · exact ⟨_, _, _, rfl⟩
  · exact ⟨_, _, _, rfl⟩
theorem wideQ_shape {s n : Int} {r : Value} (hn : fit n) (h : wideQ s n r) : ∃ g0 g1 g2 g3 g4 g5 g6 g7 s' e, r = .tuple #[.agg #[.int .u64 g0, .int .u64 g1, .int .u64 g2, .int .u64 g3, .int .u64 g4, .int .u64 g5, .int .u64 g6, .int .u64 g7], .agg #[.int .u64 s'], .int .i64 e] := by
  rcases h with ⟨_, rfl⟩ | ⟨_, k, _, _, ⟨i, _, _, hlt, rfl⟩ | ⟨_, rfl⟩⟩
  · exact ⟨_, _, _, _, _, _, _, _, _, _, rfl⟩
  · have hf : fit (cNs k s i) := by
      have := (candV_range k (sNs k s i)).1
      have := hn.1
      have := hn.2
      constructor <;> unfold cNs at * <;> omega
    obtain ⟨_, _, _, _, _, _, _, _, -, -, he⟩ := words_of hf
    rw [he]
    exact ⟨_, _, _, _, _, _, _, _, _, _, rfl⟩
  · exact ⟨_, _, _, _, _, _, _, _, _, _, rfl⟩
theorem wi_lt (a : Int) : IntKind.i64.wrap a < 9223372036854775808 := by
  have e : IntKind.i64.wrap a = (if (true && decide (a % 18446744073709551616 ≥ 9223372036854775808)) = true then a % 18446744073709551616 - 18446744073709551616 else a % 18446744073709551616) := rfl
  rw [e]
  split
  · omega
  · rename_i h
    simp at h
    omega
theorem bits_lt (op : BinOp) (x y : Int) : bits op .i64 x y < 9223372036854775808 := wi_lt _
theorem w64_lt (x : Int) : wrap64 x < 9223372036854775808 := by unfold wrap64; omega
end Go.Proofs.YtfeapgpjchjphaaGreat
namespace Go.Proofs.YtfeapgpjchjphaaGreat
open Go Go.Rx Go.RowKit Go.Big Go.Shelf
attribute [local instance] noAv
theorem all2_v {ρ : Loc'} : ∀ (l : List Int), All2 (DC ρ) (l.map fun a => C.v (.int .u64 a)) (l.map fun a => Value.int .u64 a)
  | [] => .nil
  | _ :: l => .cons (.v rfl) (all2_v l)
theorem eq8_same (z0 z1 z2 z3 z4 z5 z6 z7 : Int) (w : World) : (Op.equalIn 10000 26 (.agg #[Value.int .u64 z0, Value.int .u64 z1, Value.int .u64 z2, Value.int .u64 z3, Value.int .u64 z4, Value.int .u64 z5, Value.int .u64 z6, Value.int .u64 z7]) (.agg #[Value.int .u64 z0, Value.int .u64 z1, Value.int .u64 z2, Value.int .u64 z3, Value.int .u64 z4, Value.int .u64 z5, Value.int .u64 z6, Value.int .u64 z7])).run Tryz.prog w = .ok true w := by
  have h : aggEq Tryz.prog 26 ([z0, z1, z2, z3, z4, z5, z6, z7].map fun a => C.v (.int .u64 a)) ([z0, z1, z2, z3, z4, z5, z6, z7].map fun a => C.v (.int .u64 a)) = some ((z0 == z0) && ((z1 == z1) && ((z2 == z2) && ((z3 == z3) && ((z4 == z4) && ((z5 == z5) && ((z6 == z6) && ((z7 == z7) && true)))))))) := by kernel_rfl
  rw [show ((z0 == z0) && ((z1 == z1) && ((z2 == z2) && ((z3 == z3) && ((z4 == z4) && ((z5 == z5) && ((z6 == z6) && ((z7 == z7) && true)))))))) = true by simp] at h
  exact (aggEq_sound (ρ := noLoc (lets0 fun _ => 0)) h (all2_v _) (all2_v _) w).1
def BlawA (w : World) (s a0 a1 a2 a3 a4 a5 a6 a7 : Int) (b : Bool) (bv : Value) (l : Int) (a : Value) (wr : World) : Prop :=
  ∃ i : Nat, a = .int .i64 i ∧ i ≤ 3 ∧ Below w.heap.size w wr ∧ wr.heap[w.heap.size]? = some (.cells #[.int .u64 s] 24) ∧ wr.heap[w.heap.size + 1]? = some (.cells #[.int .u64 a0, .int .u64 a1, .int .u64 a2, .int .u64 a3, .int .u64 a4, .int .u64 a5, .int .u64 a6, .int .u64 a7] 26) ∧ wr.heap[w.heap.size + 1 + 1]? = some (.cells #[.bool b, bv, .int .u32 l] 30)
def BlawB (w : World) (s : Int) (a : Value) (wr : World) : Prop :=
  ∃ i : Nat, a = .int .i64 i ∧ i ≤ 4 ∧ Below w.heap.size w wr ∧ wr.heap[w.heap.size]? = some (.cells #[.int .u64 s] 24)
theorem heapT (w : World) (o1 o2 o3 : Obj) : (((w.alloc o1).alloc o2).alloc o3).heap[w.heap.size]? = some o1 ∧ (((w.alloc o1).alloc o2).alloc o3).heap[w.heap.size + 1]? = some o2 ∧ (((w.alloc o1).alloc o2).alloc o3).heap[w.heap.size + 1 + 1]? = some o3 := by
  have h1 := (MapKept.heap_alloc w o1).1
  have h2 := (MapKept.heap_alloc (w.alloc o1) o2).1
  have h3 := (MapKept.heap_alloc ((w.alloc o1).alloc o2) o3).1
  have a2 := (Below.refl _ (w.alloc o1)).alloc (Nat.le_refl _) o2
  have a3 := (Below.refl _ ((w.alloc o1).alloc o2)).alloc (Nat.le_refl _) o3
  have e2 : (w.alloc o1).heap.size = w.heap.size + 1 := by simp
  have e3 : ((w.alloc o1).alloc o2).heap.size = w.heap.size + 1 + 1 := by simp
  rw [e2] at h2
  rw [e3] at h3
  exact ⟨keepH (keepH h1 a2) a3, keepH h2 a3, h3⟩
theorem two_new {w : World} {z z' : Obj} {B B' : Nat} (h : w.heap[B]? = some z) (h' : w.heap[B']? = some z') (o1 o2 : Obj) : ((w.alloc o1).alloc o2).heap[B]? = some z ∧ ((w.alloc o1).alloc o2).heap[B']? = some z' ∧ ((w.alloc o1).alloc o2).heap[w.heap.size]? = some o1 ∧ ((w.alloc o1).alloc o2).heap[w.heap.size + 1]? = some o2 ∧ Below w.heap.size w ((w.alloc o1).alloc o2) := by
  have h1 := (MapKept.heap_alloc w o1).1
  have h2 := (MapKept.heap_alloc (w.alloc o1) o2).1
  have e2 : (w.alloc o1).heap.size = w.heap.size + 1 := by simp
  rw [e2] at h2
  have a1 := (Below.refl _ w).alloc (Nat.le_refl _) o1
  have a2 := (Below.refl _ (w.alloc o1)).alloc (Nat.le_refl _) o2
  exact ⟨keepH (keepH h a1) a2, keepH (keepH h' a1) a2, keepH h1 a2, h2, a1.trans (a2.mono (by omega))⟩
set_option maxHeartbeats 3200000 in
set_option maxRecDepth 100000 in
theorem below_law {w : World} (hworks : ∀ U : World, Calls Tryz.prog 5 #[] U (Gets (fun _ r => r = .bool true) U)) (s n : Int) {x0 a0 a1 a2 a3 a4 a5 a6 a7 : Int} {b : Bool} {bv : Value} {l : Int} {bits : List Int} (n0 : -9223372036854775808 ≤ n) (n1 : n ≤ 9223372036854775807) (hx0 : fit x0) (E0 : W x0 = .agg #[.int .u64 a0, .int .u64 a1, .int .u64 a2, .int .u64 a3, .int .u64 a4, .int .u64 a5, .int .u64 a6, .int .u64 a7]) (hd : DraftOk w bv bits l) :
    Calls Tryz.prog 3 #[.agg #[.int .u64 s], .int .i64 n, .agg #[.int .u64 a0, .int .u64 a1, .int .u64 a2, .int .u64 a3, .int .u64 a4, .int .u64 a5, .int .u64 a6, .int .u64 a7], .agg #[.bool b, bv, .int .u32 l]] w (Gets (fun _ r => r = .bool true) w) := by
  have nb := (((Below.refl w.heap.size w).alloc (Nat.le_refl _) (.cells #[.int .u64 s] 24)).alloc (by simp) (.cells #[.int .u64 a0, .int .u64 a1, .int .u64 a2, .int .u64 a3, .int .u64 a4, .int .u64 a5, .int .u64 a6, .int .u64 a7] 26)).alloc (by simp; omega) (.cells #[.bool b, bv, .int .u32 l] 30)
  obtain ⟨q4, q6, q7⟩ := heapT w (.cells #[.int .u64 s] 24) (.cells #[.int .u64 a0, .int .u64 a1, .int .u64 a2, .int .u64 a3, .int .u64 a4, .int .u64 a5, .int .u64 a6, .int .u64 a7] 26) (.cells #[.bool b, bv, .int .u32 l] 30)
  have hdU : ∀ U, Below w.heap.size w U → DraftOk U bv bits l := fun U h => by
    obtain ⟨p1, p2, p3, p4, p5⟩ := hd
    exact ⟨p1.below h, p2, p3, p4, p5⟩
  clear hd
  go_enter Tryz.func3, Tryz.ntmps3
  go_wp2_with fail
  refine (hworks _).mono ?_
  rintro e w1 ⟨r, rfl, rfl, hb1⟩
  have q4 := keepH q4 hb1
  have q6 := keepH q6 hb1
  have q7 := keepH q7 hb1
  have belw := nb.trans (hb1.mono (by simp; omega))
  clear nb hb1 hworks
  go_wp2_with fail
  go_loopw [39] (BlawA w s a0 a1 a2 a3 a4 a5 a6 a7 b bv l) (fun i _ => 3 - (intOf i).toNat)
  case atStart => exact ⟨0, rfl, by omega, belw, q4, q6, q7⟩
  case round =>
    clear q4 q6 q7 belw
    obtain ⟨i, rfl, hi, belw, q4, q6, q7⟩ := hrel
    by_cases h7 : i < 3
    · obtain ⟨K, hK, hix⟩ := three_at n _ _ i h7 (by omega) (w64_lt (1 + wrap64 ((IntKind.u64.wrap n).tmod 1000))) (bits_lt BinOp.or (wrap64 (IntKind.u64.wrap n / 2)) 4611686018427387904)
      have h7' : (i : Int) < 3 := by omega
      have c1 : wr.cell? ⟨w.heap.size, 0, none⟩ = some (.int .u64 s) := (cellOf q4).trans rfl
      clear hdU E0 hx0 n0 n1
      go_wp2_with fail
      refine (below_q hK).mono ?_
      rintro e w2 ⟨r2, rfl, hq, hb2⟩
      obtain ⟨v, s', er, rfl⟩ := belowQ_shape hq
      have bal := (Below.refl w2.heap.size w2).alloc (Nat.le_refl _) (.cells #[.int .u64 s'] 24)
      have q4 := keepH (keepH q4 hb2) bal
      have q6 := keepH (keepH q6 hb2) bal
      have q7 := keepH (keepH q7 hb2) bal
      have belw := (belw.trans (hb2.mono belw.size)).trans (bal.mono (by have := belw.size; have := hb2.size; omega))
      have k12 := (MapKept.heap_alloc w2 (.cells #[.int .u64 s'] 24)).1
      have c1 : (w2.alloc (.cells #[.int .u64 s'] 24)).cell? ⟨w.heap.size, 0, none⟩ = some (.int .u64 s) := (cellOf q4).trans rfl
      clear hb2 bal
      go_wp2_with fail
      refine (refBelow_q hK).mono ?_
      rintro e w3 ⟨r3, rfl, hq3, hb3⟩
      obtain rfl := belowQ_inj hq3 hq
      have bal := (Below.refl w3.heap.size w3).alloc (Nat.le_refl _) (.cells #[.int .u64 s'] 24)
      have q4 := keepH (keepH q4 hb3) bal
      have q6 := keepH (keepH q6 hb3) bal
      have q7 := keepH (keepH q7 hb3) bal
      have k12 := keepH (keepH k12 hb3) bal
      have belw := (belw.trans (hb3.mono belw.size)).trans (bal.mono (by have := belw.size; have := hb3.size; omega))
      have k15 := (MapKept.heap_alloc w3 (.cells #[.int .u64 s'] 24)).1
      have c12 : (w3.alloc (.cells #[.int .u64 s'] 24)).cell? ⟨w2.heap.size, 0, none⟩ = some (.int .u64 s') := (cellOf k12).trans rfl
      have c15 : (w3.alloc (.cells #[.int .u64 s'] 24)).cell? ⟨w3.heap.size, 0, none⟩ = some (.int .u64 s') := (cellOf k15).trans rfl
      have hfin : BlawA w s a0 a1 a2 a3 a4 a5 a6 a7 b bv l (.int .i64 ((i : Int) + 1)) (w3.alloc (.cells #[.int .u64 s'] 24)) := ⟨i + 1, rfl, by omega, belw, q4, q6, q7⟩
      have HF := Lib.hid hfin
      clear hb3 bal q4 q6 q7 k12 k15 belw hq hq3 hfin c1 hix
      go_wp2
      go_roundw
      case rel => exact HF.out
      case measure => simp [intOf]; omega
    · obtain rfl : i = 3 := by omega
      have hdW := fun U (h : Below wr.heap.size wr U) => hdU U (belw.trans (h.mono belw.size))
      clear hdU
      go_wp2_with fail
      rename_i hK
      refine below_r11 n0 n1 hdW q6 q7 _ _ _ _ _ _ _ _ _ _ _ _ _ _ _ _ _ _ _ _ _ _ _ _ _ _ _ _ _ _ _ _ _ _ _ _ _ _ _ _ _ _ _ _ _ _ _ _ _ _ _ _ _ _ _ _ _ _ _ _ _ _ _ _ _ _ _ _ _ _ _ _ _ _ _ _ _ _ _ _ _ _ _ _ _ _ _ _ _ _ _ _ _ _ _ _ _ _ _ _ _ _ _ _ _ _ _ _ _ ?_
      intro x1 x2 d0 d1 d2 d3 d4 d5 d6 d7 e0 e1 e2 e3 e4 e5 e6 e7 f0 f1 f2 f3 f4 f5 f6 f7 v70 v71 v72 v73 v74 v75 v76 U hx1 hx2 E1 E2 E3 bU
      have q4 := keepH q4 bU
      have belw := belw.trans (bU.mono belw.size)
      have hfour := four_at hx0 hx1 hx2 (fit_i64 n0 n1) E0 E1 E2 E3
      refine hK _ _ ?_
      clear hK q6 q7 hdW bU E0 E1 E2 E3 hx0 hx1 hx2 n0 n1
      have HFO := Lib.hid hfour
      clear hfour
      go_wp2_with fail
      go_loopw [78] (BlawB w s) (fun i _ => 4 - (intOf i).toNat)
      case atStart => exact ⟨0, rfl, by omega, belw, q4⟩
      case round =>
        clear q4 belw
        obtain ⟨i, rfl, hi, belw, q4⟩ := hrel
        by_cases h7 : i < 4
        · obtain ⟨x, hx, hix⟩ := HFO.out i h7
          obtain ⟨b0, b1, b2, b3, b4, b5, b6, b7, -, -, he⟩ := words_of hx
          rw [he] at hix
          have hWq := fun U => Wide_q (w := U) (s := s) hx
          have hRq := fun U => refWide_q (w := U) (s := s) hx
          rw [he] at hWq hRq
          clear he HFO
          have h7' : (i : Int) < 4 := by omega
          have bal := (Below.refl wr.heap.size wr).alloc (Nat.le_refl _) (.cells #[.int .u64 b0, .int .u64 b1, .int .u64 b2, .int .u64 b3, .int .u64 b4, .int .u64 b5, .int .u64 b6, .int .u64 b7] 26)
          have q4 := keepH q4 bal
          have q18 := (MapKept.heap_alloc wr (.cells #[.int .u64 b0, .int .u64 b1, .int .u64 b2, .int .u64 b3, .int .u64 b4, .int .u64 b5, .int .u64 b6, .int .u64 b7] 26)).1
          have belw := belw.trans (bal.mono belw.size)
          have c1 : (wr.alloc (.cells #[.int .u64 b0, .int .u64 b1, .int .u64 b2, .int .u64 b3, .int .u64 b4, .int .u64 b5, .int .u64 b6, .int .u64 b7] 26)).cell? ⟨w.heap.size, 0, none⟩ = some (.int .u64 s) := (cellOf q4).trans rfl
          obtain ⟨i0, i1, i2, i3, i4, i5, i6, i7⟩ := eightC q18
          clear bal
          go_wp2_with fail
          refine (hWq _).mono ?_
          rintro e w2 ⟨r2, rfl, hq, hb2⟩
          obtain ⟨g0, g1, g2, g3, g4, g5, g6, g7, s', er, rfl⟩ := wideQ_shape hx hq
          have q4 := keepH q4 hb2
          have q18 := keepH q18 hb2
          have belw := belw.trans (hb2.mono belw.size)
          obtain ⟨m4, m18, m19, m20, mb⟩ := two_new q4 q18 (.cells #[.int .u64 g0, .int .u64 g1, .int .u64 g2, .int .u64 g3, .int .u64 g4, .int .u64 g5, .int .u64 g6, .int .u64 g7] 26) (.cells #[.int .u64 s'] 24)
          have belw := belw.trans (mb.mono belw.size)
          have c1 : ((w2.alloc (.cells #[.int .u64 g0, .int .u64 g1, .int .u64 g2, .int .u64 g3, .int .u64 g4, .int .u64 g5, .int .u64 g6, .int .u64 g7] 26)).alloc (.cells #[.int .u64 s'] 24)).cell? ⟨w.heap.size, 0, none⟩ = some (.int .u64 s) := (cellOf m4).trans rfl
          obtain ⟨i0, i1, i2, i3, i4, i5, i6, i7⟩ := eightC m18
          clear hb2 mb hix q4 q18 hWq
          go_wp2_with fail
          refine (hRq _).mono ?_
          rintro e w3 ⟨r3, rfl, hq3, hb3⟩
          obtain rfl := wideQ_inj hq3 hq
          have m4 := keepH m4 hb3
          have m19 := keepH m19 hb3
          have m20 := keepH m20 hb3
          have belw := belw.trans (hb3.mono belw.size)
          obtain ⟨n4, n19, n22, n23, nb⟩ := two_new m4 m19 (.cells #[.int .u64 g0, .int .u64 g1, .int .u64 g2, .int .u64 g3, .int .u64 g4, .int .u64 g5, .int .u64 g6, .int .u64 g7] 26) (.cells #[.int .u64 s'] 24)
          obtain ⟨-, n20, -, -, -⟩ := two_new m4 m20 (.cells #[.int .u64 g0, .int .u64 g1, .int .u64 g2, .int .u64 g3, .int .u64 g4, .int .u64 g5, .int .u64 g6, .int .u64 g7] 26) (.cells #[.int .u64 s'] 24)
          have belw := belw.trans (nb.mono belw.size)
          have c20 : ((w3.alloc (.cells #[.int .u64 g0, .int .u64 g1, .int .u64 g2, .int .u64 g3, .int .u64 g4, .int .u64 g5, .int .u64 g6, .int .u64 g7] 26)).alloc (.cells #[.int .u64 s'] 24)).cell? ⟨w2.heap.size + 1, 0, none⟩ = some (.int .u64 s') := (cellOf n20).trans rfl
          have c23 : ((w3.alloc (.cells #[.int .u64 g0, .int .u64 g1, .int .u64 g2, .int .u64 g3, .int .u64 g4, .int .u64 g5, .int .u64 g6, .int .u64 g7] 26)).alloc (.cells #[.int .u64 s'] 24)).cell? ⟨w3.heap.size + 1, 0, none⟩ = some (.int .u64 s') := (cellOf n23).trans rfl
          obtain ⟨i0, i1, i2, i3, i4, i5, i6, i7⟩ := eightC n19
          obtain ⟨k0, k1, k2, k3, k4, k5, k6, k7⟩ := eightC n22
          have hfin : BlawB w s (.int .i64 ((i : Int) + 1)) ((w3.alloc (.cells #[.int .u64 g0, .int .u64 g1, .int .u64 g2, .int .u64 g3, .int .u64 g4, .int .u64 g5, .int .u64 g6, .int .u64 g7] 26)).alloc (.cells #[.int .u64 s'] 24)) := ⟨i + 1, rfl, by omega, belw, n4⟩
          have HF := Lib.hid hfin
          have heq := eq8_same g0 g1 g2 g3 g4 g5 g6 g7
          clear hb3 nb m4 m18 m19 m20 n4 n19 n20 n22 n23 belw hq hq3 hfin hRq c1 hx
          go_wp2
          go_roundw
          case rel => exact HF.out
          case measure => simp [intOf]; omega
        · obtain rfl : i = 4 := by omega
          go_wp2
          go_ret
          exact ⟨_, rfl, rfl, belw⟩
end Go.Proofs.YtfeapgpjchjphaaGreat
