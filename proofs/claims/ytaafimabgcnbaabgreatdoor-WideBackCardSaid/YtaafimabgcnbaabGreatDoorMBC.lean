/-
  The law WideBack: the two drafts, in whatever order their boxes are laid.
-/
import Derived.Test.YtaafimabgcnbaabGreatDoorMBB
set_option linter.all false
namespace Go.Proofs.YtaafimabgcnbaabGreatDoor
open Go Go.Rx Go.RowKit Go.Big
attribute [local instance] noAv
theorem cellAllB {W : World} {B : Nat} {cs : Array Value} {t : TypeId} (k : W.heap[B]? = some (.cells cs t)) : ∀ j, W.cell? ⟨B, j, none⟩ = cs[j]? := fun _ => cellOf k
theorem frozenAllB {W : World} {B : Nat} {cs : Array Value} {t : TypeId} (k : W.heap[B]? = some (.cells cs t)) : ∀ j, W.frozen? ⟨B, j, none⟩ = false := fun _ => frozenOf k
noncomputable def backR9 : Code := ((Tryz.f3.body.bind (findR 9)).getD .skip)
set_option maxHeartbeats 64000000 in
set_option maxRecDepth 100000 in
theorem back_r9 {w7 : World} {P7 P8 : Nat} {x0 x1 x2 x3 x4 x5 x6 x7 y0 y1 y2 y3 y4 y5 y6 y7 lx ly : Int} {bx by_ : Bool} {vx vy : Value}
    (kx : w7.heap[P7]? = some (.cells #[.bool bx, vx, .int .u32 lx] 28)) (ky : w7.heap[P8]? = some (.cells #[.bool by_, vy, .int .u32 ly] 28))
    (hWx : ∀ U, Below w7.heap.size w7 U → Calls Tryz.prog 8 #[.agg #[.bool bx, vx, .int .u32 lx], .int .i64 500] U (Gets (fun _ r => r = .agg #[.int .u64 x0, .int .u64 x1, .int .u64 x2, .int .u64 x3, .int .u64 x4, .int .u64 x5, .int .u64 x6, .int .u64 x7]) U))
    (hWy : ∀ U, Below w7.heap.size w7 U → Calls Tryz.prog 8 #[.agg #[.bool by_, vy, .int .u32 ly], .int .i64 500] U (Gets (fun _ r => r = .agg #[.int .u64 y0, .int .u64 y1, .int .u64 y2, .int .u64 y3, .int .u64 y4, .int .u64 y5, .int .u64 y6, .int .u64 y7]) U))
    (c0 c1 c2 c3 c4 c5 c6 c9 c10 c11 c12 c13 c14 c17 c18 c19 c20 c21 c22 c23 c24 c25 c26 c27 c28 c29 c30 c31 c32 c33 c34 c35 c36 c37 c38 c39 c40 c41 c42 c43 c44 c45 c46 c47 c48 c49 c50 c51 c52 c53 c54 c55 c56 c57 c58 c59 c60 c61 c62 c63 c64 c65 c66 c71 c72 c73 c74 c75 c76 c77 c78 c79 c80 c81 c82 c83 c84 c85 c86 c87 c88 c89 c90 c91 c92 c93 c94 c95 c96 c97 c98 c99 c100 c101 c102 c103 c104 c105 c106 c107 c108 c109 c110 c111 c112 c113 c114 c115 c116 c117 c118 c119 c120 u15 u16 u67 u68 u69 u70 : Value) (K' : Act → World → Prop) (Q' : Exit → Act → World → Prop)
    (hK : ∀ (s15 s16 u67 u68 u69 u70 : Value) (W : World), TwoW w7 W x0 x1 x2 x3 x4 x5 x6 x7 y0 y1 y2 y3 y4 y5 y6 y7 s15 s16 → K' ⟨(List.toArray (c0 :: c1 :: c2 :: c3 :: c4 :: c5 :: c6 :: (.pointer (some ⟨P7, 0, none⟩)) :: (.pointer (some ⟨P8, 0, none⟩)) :: c9 :: c10 :: c11 :: c12 :: c13 :: c14 :: (s15) :: (s16) :: c17 :: c18 :: c19 :: c20 :: c21 :: c22 :: c23 :: c24 :: c25 :: c26 :: c27 :: c28 :: c29 :: c30 :: c31 :: c32 :: c33 :: c34 :: c35 :: c36 :: c37 :: c38 :: c39 :: c40 :: c41 :: c42 :: c43 :: c44 :: c45 :: c46 :: c47 :: c48 :: c49 :: c50 :: c51 :: c52 :: c53 :: c54 :: c55 :: c56 :: c57 :: c58 :: c59 :: c60 :: c61 :: c62 :: c63 :: c64 :: c65 :: c66 :: u67 :: u68 :: u69 :: u70 :: c71 :: c72 :: c73 :: c74 :: c75 :: c76 :: c77 :: c78 :: c79 :: c80 :: c81 :: c82 :: c83 :: c84 :: c85 :: c86 :: c87 :: c88 :: c89 :: c90 :: c91 :: c92 :: c93 :: c94 :: c95 :: c96 :: c97 :: c98 :: c99 :: c100 :: c101 :: c102 :: c103 :: c104 :: c105 :: c106 :: c107 :: c108 :: c109 :: c110 :: c111 :: c112 :: c113 :: c114 :: c115 :: c116 :: c117 :: c118 :: c119 :: c120 :: [])), []⟩ W) :
    Code.wp Tryz.prog backR9 (Exit.then K' Q') ⟨(List.toArray (c0 :: c1 :: c2 :: c3 :: c4 :: c5 :: c6 :: (.pointer (some ⟨P7, 0, none⟩)) :: (.pointer (some ⟨P8, 0, none⟩)) :: c9 :: c10 :: c11 :: c12 :: c13 :: c14 :: u15 :: u16 :: c17 :: c18 :: c19 :: c20 :: c21 :: c22 :: c23 :: c24 :: c25 :: c26 :: c27 :: c28 :: c29 :: c30 :: c31 :: c32 :: c33 :: c34 :: c35 :: c36 :: c37 :: c38 :: c39 :: c40 :: c41 :: c42 :: c43 :: c44 :: c45 :: c46 :: c47 :: c48 :: c49 :: c50 :: c51 :: c52 :: c53 :: c54 :: c55 :: c56 :: c57 :: c58 :: c59 :: c60 :: c61 :: c62 :: c63 :: c64 :: c65 :: c66 :: u67 :: u68 :: u69 :: u70 :: c71 :: c72 :: c73 :: c74 :: c75 :: c76 :: c77 :: c78 :: c79 :: c80 :: c81 :: c82 :: c83 :: c84 :: c85 :: c86 :: c87 :: c88 :: c89 :: c90 :: c91 :: c92 :: c93 :: c94 :: c95 :: c96 :: c97 :: c98 :: c99 :: c100 :: c101 :: c102 :: c103 :: c104 :: c105 :: c106 :: c107 :: c108 :: c109 :: c110 :: c111 :: c112 :: c113 :: c114 :: c115 :: c116 :: c117 :: c118 :: c119 :: c120 :: [])), []⟩ w7 := by
  have HK := Lib.hid hK
  clear hK
  have hlx := lt_of_heap kx
  have hly := lt_of_heap ky
  have allS : ∀ U, Below w7.heap.size w7 U → U.cell? ⟨P7, 0, none⟩ = some (.bool bx) ∧ U.cell? ⟨P7, 1, none⟩ = some vx ∧ U.cell? ⟨P7, 2, none⟩ = some (.int .u32 lx) ∧ U.cell? ⟨P8, 0, none⟩ = some (.bool by_) ∧ U.cell? ⟨P8, 1, none⟩ = some vy ∧ U.cell? ⟨P8, 2, none⟩ = some (.int .u32 ly) := fun U hU => by
    have k1 := (hU.block P7 hlx).trans kx
    have k2 := (hU.block P8 hly).trans ky
    exact ⟨(cellOf (j := 0) k1).trans rfl, (cellOf (j := 1) k1).trans rfl, (cellOf (j := 2) k1).trans rfl, (cellOf (j := 0) k2).trans rfl, (cellOf (j := 1) k2).trans rfl, (cellOf (j := 2) k2).trans rfl⟩
  have j1 : Below w7.heap.size w7 w7.drew := (Below.refl _ _).drew
  have j1a : ∀ o, Below w7.heap.size w7 (w7.alloc o).drew := fun o => (below_al (Below.refl _ _) o).drew
  have j1b : ∀ o o', Below w7.heap.size w7 ((w7.alloc o).alloc o').drew := fun o o' => (below_al (below_al (Below.refl _ _) o) o').drew
  conv => arg 2; whnf
  go_region_held3 (fun w' => w'.cell? ⟨P7, 0, none⟩ = some (.bool bx) ∧ w'.cell? ⟨P7, 1, none⟩ = some vx ∧ w'.cell? ⟨P7, 2, none⟩ = some (.int .u32 lx) ∧ w'.cell? ⟨P8, 0, none⟩ = some (.bool by_) ∧ w'.cell? ⟨P8, 1, none⟩ = some vy ∧ w'.cell? ⟨P8, 2, none⟩ = some (.int .u32 ly))
    (((with_reducible refine allS _ ?_); (with_reducible (repeat' (first | exact j1 | exact j1a _ | exact j1b _ _ | exact j2 | exact j3 | refine below_al ?_ _ | refine Below.setCell ?_ ?_ _))); all_goals (first | exact Nat.le_refl _ | exact Nat.le_succ _ | exact j2.size | exact j3.size | exact Nat.le_succ_of_le j2.size | exact Nat.le_succ_of_le j3.size | exact i1 | exact i2 | exact i3 | exact i4)))
    (first | (go_at_call 8; ((with_reducible refine (hWx _ (by first | exact j1 | exact j1a _ | exact j1b _ _)).mono ?_); rintro e w2 ⟨v2, rfl, rfl, hb2⟩; have j2 := next0 (by first | exact j1 | exact j1a _ | exact j1b _ _) hb2; (first | (have m1 := (lay2d hb2).1; have m2 := (lay2d hb2).2) | (have m1 := lay1d hb2) | skip); (try have i0 := lt_of_heap m1); (try have i1 := Nat.le_of_lt i0); (try have n1 := Nat.ne_of_lt i0); (try have n2 := Nat.ne_of_gt i0))) | (go_at_call 8; ((with_reducible refine (hWy _ (by first | exact j2 | exact below_al j2 _ | exact below_al (below_al j2 _) _)).mono ?_); rintro e w3 ⟨v3, rfl, rfl, hb3⟩; have j3 := next0 (by first | exact j2 | exact below_al j2 _ | exact below_al (below_al j2 _) _) hb3; (first | (have m3 := (lay2 hb3).1; have m4 := (lay2 hb3).2) | (have m3 := lay1 hb3) | skip); have hb23 : Below w2.heap.size w2 w3 := next0 (by first | exact Below.refl _ _ | exact below_al (Below.refl _ _) _ | exact below_al (below_al (Below.refl _ _) _) _) hb3; (try have m1 := carry m1 hb23); (try have m2 := carry m2 hb23); (try (have e1 := cellAllB m1; have g1 := frozenAllB m1)); (try (have e2 := cellAllB m2; have g2 := frozenAllB m2)); (try (have e3 := cellAllB m3; have g3 := frozenAllB m3)); (try (have e4 := cellAllB m4; have g4 := frozenAllB m4)); (try have l1 := lt_of_heap m1); (try have l2 := lt_of_heap m2); (try have l3 := lt_of_heap m3); (try have l4 := lt_of_heap m4))))
  all_goals
    have z1 : w7.heap.size ≤ w7.heap.size := Nat.le_refl _
    have z2 : w7.heap.size ≤ w2.heap.size := j2.size
    clear allS j1 j1a j1b hWx hWy
    show K' _ _
    with_reducible first
      | exact HK.out _ _ _ _ _ _ _ (tw_a j3)
      | exact HK.out _ _ _ _ _ _ _ (tw_a' j3)
      | exact HK.out _ _ _ _ _ _ _ (tw_b j3 m3 z2)
      | exact HK.out _ _ _ _ _ _ _ (tw_b j3 m1 z1)
      | exact HK.out _ _ _ _ _ _ _ (tw_b' j3 m3 z2)
      | exact HK.out _ _ _ _ _ _ _ (tw_b' j3 m1 z1)
      | exact HK.out _ _ _ _ _ _ _ (tw_c j3 m3 m4 z2 (Nat.le_succ_of_le z2) (by omega))
      | exact HK.out _ _ _ _ _ _ _ (tw_c j3 m4 m3 (Nat.le_succ_of_le z2) z2 (by omega))
      | exact HK.out _ _ _ _ _ _ _ (tw_c j3 m1 m2 z1 (Nat.le_succ_of_le z1) (by omega))
      | exact HK.out _ _ _ _ _ _ _ (tw_c j3 m2 m1 (Nat.le_succ_of_le z1) z1 (by omega))
      | exact HK.out _ _ _ _ _ _ _ (tw_c j3 m1 m3 z1 z2 (by omega))
      | exact HK.out _ _ _ _ _ _ _ (tw_c j3 m3 m1 z2 z1 (by omega))
end Go.Proofs.YtaafimabgcnbaabGreatDoor
