/-
  The law ChanceNext, over the contract of works.
-/
import Derived.Test.YtmfjieldgcdhoaaGreatMCA
import Derived.Deep.RegionHeld3
import Derived.Lib.Hide
set_option linter.all false
namespace Go.Proofs.YtmfjieldgcdhoaaGreat
open Go Go.RowKit Go.Big
attribute [local instance] noAv
theorem ltH {W : World} {z : Obj} {B : Nat} (h : W.heap[B]? = some z) : B < W.heap.size := (Array.getElem?_eq_some_iff.1 h).1
theorem keepH {W w' : World} {z : Obj} {B : Nat} (h : W.heap[B]? = some z) (hb : Below W.heap.size W w') : w'.heap[B]? = some z := (hb.block B (ltH h)).trans h
theorem keepA {W w' : World} {z o : Obj} {B : Nat} (h : W.heap[B]? = some z) (hb : Below (W.alloc o).heap.size (W.alloc o) w') : w'.heap[B]? = some z ∧ w'.heap[W.heap.size]? = some o :=
  ⟨keepH (keepH h ((Below.refl _ W).alloc (Nat.le_refl _) o)) hb, (hb.block W.heap.size (by simp)).trans (MapKept.heap_alloc W o).1⟩
def findRc (n : Nat) : Code → Option Code
  | .region k ops d => if k = n then some (.region k ops d) else none
  | .seq a b => match findRc n a with | some c => some c | none => findRc n b
  | .cond _ a b => match findRc n a with | some c => some c | none => findRc n b
  | .loop a => findRc n a
  | .block _ a => findRc n a
  | _ => none
noncomputable def nextR7 : Code := ((Tryz.f3.body.bind (findRc 7)).getD .skip)
set_option maxHeartbeats 4000000 in
set_option maxRecDepth 100000 in
theorem next_r7 {w4 : World} {P X Y : Nat} {s t m q l : Int} (hP : w4.heap[P]? = some (.cells #[.int .u64 s] 24)) (hX : w4.heap[X]? = some (.cells #[.int .u64 t] 24)) (hY : w4.heap[Y]? = some (.cells #[.int .u64 t] 24))
    (hS1 : ∀ U, Calls Tryz.prog 8 #[.agg #[.int .u64 s], .int .i64 l] U (Gets (fun _ r => r = .agg #[.int .u64 q]) U))
    (hS2 : ∀ U, Calls Tryz.prog 9 #[.agg #[.int .u64 s], .int .i64 l] U (Gets (fun _ r => r = .agg #[.int .u64 q]) U))
    (c0 c3 c4 c9 c10 c11 c12 c13 c14 c15 c16 c17 c18 c19 c20 c21 c22 c40 c41 u23 u24 u25 u26 u27 u28 u29 u30 u31 u32 u33 u34 u35 u36 u37 u38 u39 : Value) (K' : Act → World → Prop) (Q' : Exit → Act → World → Prop)
    (hK : ∀ (u23 u24 u25 u26 u27 u28 u29 u30 u31 u32 u33 u34 u35 u36 u37 u38 : Value) (W : World), Below w4.heap.size w4 W → K' ⟨(List.toArray (c0 :: (.int .i64 l) :: (.pointer (some ⟨P, 0, none⟩)) :: c3 :: c4 :: (.int .u64 m) :: (.pointer (some ⟨X, 0, none⟩)) :: (.int .u64 m) :: (.pointer (some ⟨Y, 0, none⟩)) :: c9 :: c10 :: c11 :: c12 :: c13 :: c14 :: c15 :: c16 :: c17 :: c18 :: c19 :: c20 :: c21 :: c22 :: u23 :: u24 :: u25 :: u26 :: u27 :: u28 :: u29 :: u30 :: u31 :: u32 :: u33 :: u34 :: u35 :: u36 :: u37 :: u38 :: (.bool false) :: c40 :: c41 :: [])), []⟩ W) :
    Code.wp Tryz.prog nextR7 (Exit.then K' Q') ⟨(List.toArray (c0 :: (.int .i64 l) :: (.pointer (some ⟨P, 0, none⟩)) :: c3 :: c4 :: (.int .u64 m) :: (.pointer (some ⟨X, 0, none⟩)) :: (.int .u64 m) :: (.pointer (some ⟨Y, 0, none⟩)) :: c9 :: c10 :: c11 :: c12 :: c13 :: c14 :: c15 :: c16 :: c17 :: c18 :: c19 :: c20 :: c21 :: c22 :: u23 :: u24 :: u25 :: u26 :: u27 :: u28 :: u29 :: u30 :: u31 :: u32 :: u33 :: u34 :: u35 :: u36 :: u37 :: u38 :: u39 :: c40 :: c41 :: [])), []⟩ w4 := by
  have HK := Lib.hid hK
  clear hK
  have allS : ∀ U, Below w4.heap.size w4 U → U.cell? ⟨P, 0, none⟩ = some (.int .u64 s) ∧ U.cell? ⟨X, 0, none⟩ = some (.int .u64 t) ∧ U.cell? ⟨Y, 0, none⟩ = some (.int .u64 t) := fun U hU =>
    ⟨(cellOf (keepH hP hU)).trans rfl, (cellOf (keepH hX hU)).trans rfl, (cellOf (keepH hY hU)).trans rfl⟩
  have j0 : Below w4.heap.size w4 w4.drew := (Below.refl _ _).drew
  clear hP hX hY
  conv => arg 2; whnf
  go_region_held3 (fun w' => w'.cell? ⟨P, 0, none⟩ = some (.int .u64 s) ∧ w'.cell? ⟨X, 0, none⟩ = some (.int .u64 t) ∧ w'.cell? ⟨Y, 0, none⟩ = some (.int .u64 t))
    (((with_reducible refine allS _ ?_); with_reducible (first | exact j0 | exact j1 | exact j2)))
    (first | (go_at_call 8; refine (hS1 _).mono ?_; rintro e w5 ⟨v, rfl, rfl, hb⟩; have j1 := j0.trans (hb.mono j0.size)) | (go_at_call 9; refine (hS2 _).mono ?_; rintro e w6 ⟨v, rfl, rfl, hb⟩; have j2 := j1.trans (hb.mono j1.size)))
  show K' _ _
  with_reducible exact HK.out _ _ _ _ _ _ _ _ _ _ _ _ _ _ _ _  _ j2
set_option maxHeartbeats 4000000 in
set_option maxRecDepth 100000 in
theorem next_law {w : World} (hW : ∀ U, Calls Tryz.prog 5 #[] U (Gets (fun _ r => r = .bool true) U)) (s l : Int) : Calls Tryz.prog 3 #[.agg #[.int .u64 s], .int .i64 l] w (Gets (fun _ r => r = .bool true) w) := by
  have k0 := fun o => (MapKept.heap_alloc w o).1
  have al0 := fun o => (Below.refl w.heap.size w).alloc (Nat.le_refl _) o
  have az : ∀ o, w.heap.size ≤ (w.alloc o).heap.size := fun o => by simp
  go_enter Tryz.func3, Tryz.ntmps3
  go_wp2_with fail
  refine (hW _).mono ?_
  rintro e w1 ⟨r, rfl, rfl, hb⟩
  have k1 := keepH (k0 _) hb
  have hbel := (al0 _).trans (hb.mono (az _))
  clear hb k0 hW al0 az
  go_wp2_with fail
  generalize hPP : w.heap.size = P at *
  have HPP := Lib.hid hPP
  clear hPP
  go_loopw [11] (fun i wr => ∃ (k : Nat) (s : Int), i = .int .i64 k ∧ k ≤ 5 ∧ wr.heap[P]? = some (.cells #[.int .u64 s] 24) ∧ Below P w wr) (fun i _ => 5 - (intOf i).toNat)
  case atStart => exact ⟨0, s, rfl, by omega, k1, hbel⟩
  case round =>
    clear k1 hbel
    obtain ⟨k, s, rfl, hk, hP, hbel⟩ := hrel
    by_cases h5 : k < 5
    · have c0 : wr.cell? ⟨P, 0, none⟩ = some (.int .u64 s) := (cellOf hP).trans rfl
      have hN1 : ∀ U, Calls Tryz.prog 6 #[.agg #[.int .u64 s]] U (Gets (fun _ r => r = .tuple #[.int .u64 (mix s), .agg #[.int .u64 (st s)]]) U) := fun U => next_c s
      have hN2 : ∀ U, Calls Tryz.prog 7 #[.agg #[.int .u64 s]] U (Gets (fun _ r => r = .tuple #[.int .u64 (mix s), .agg #[.int .u64 (st s)]]) U) := fun U => refNext_c s
      have hS1 : ∀ U, Calls Tryz.prog 8 #[.agg #[.int .u64 s], .int .i64 l] U (Gets (fun _ r => r = .agg #[.int .u64 (mix (bits BinOp.xor IntKind.u64 s (mix (IntKind.u64.wrap l))))]) U) := fun U => split_c s l
      have hS2 : ∀ U, Calls Tryz.prog 9 #[.agg #[.int .u64 s], .int .i64 l] U (Gets (fun _ r => r = .agg #[.int .u64 (mix (bits BinOp.xor IntKind.u64 s (mix (IntKind.u64.wrap l))))]) U) := fun U => refSplit_c s l
      generalize mix (bits BinOp.xor IntKind.u64 s (mix (IntKind.u64.wrap l))) = q at *
      generalize mix s = m at *
      generalize st s = t at *
      go_wp2_with fail
      refine (hN1 _).mono ?_
      rintro e w2 ⟨r, rfl, rfl, hb⟩
      have hbel2 := hbel.trans (hb.mono (Nat.le_of_lt (ltH hP)))
      have hP := keepH hP hb
      clear hb c0 hbel
      have c0 : w2.cell? ⟨P, 0, none⟩ = some (.int .u64 s) := (cellOf hP).trans rfl
      have lP := ltH hP
      go_wp2_with fail
      refine (hN2 _).mono ?_
      rintro e w3 ⟨r, rfl, rfl, hb⟩
      have hbel3 := hbel2.trans ((((Below.refl w2.heap.size w2).alloc (Nat.le_refl _) (.cells #[.int .u64 t] 24)).trans (hb.mono (by simp))).mono (Nat.le_of_lt (ltH hP)))
      obtain ⟨hP, h6⟩ := keepA hP hb
      generalize w2.heap.size = X at *
      clear hb c0 hbel2
      go_wp2_with fail
      have hY := (MapKept.heap_alloc w3 (.cells #[.int .u64 (t)] 24)).1
      have al := (Below.refl w3.heap.size w3).alloc (Nat.le_refl _) (.cells #[.int .u64 (t)] 24)
      have hbel4 := hbel3.trans (al.mono (Nat.le_of_lt (ltH hP)))
      have hP := keepH hP al
      have hX := keepH h6 al
      clear h6 al hbel3
      generalize w3.alloc (.cells #[.int .u64 (t)] 24) = w4 at *
      generalize w3.heap.size = Y at *
      refine next_r7 hP hX hY hS1 hS2 _ _ _ _ _ _ _ _ _ _ _ _ _ _ _ _ _ _ _ _ _ _ _ _ _ _ _ _ _ _ _ _ _ _ _ _ _ _ ?_
      intro u23 u24 u25 u26 u27 u28 u29 u30 u31 u32 u33 u34 u35 u36 u37 u38 W hb
      rename_i hKr
      refine hKr _ _ ?_
      have hbel5 := (hbel4.trans (hb.mono (Nat.le_of_lt (ltH hP)))).setCell (p := ⟨P, 0, none⟩) (Nat.le_refl P) (.int .u64 t)
      have hP := keepH hP hb
      have hX := keepH hX hb
      clear hbel4
      clear hb hY hS1 hS2 hN1 hN2 hKr
      have c0 : W.cell? ⟨P, 0, none⟩ = some (.int .u64 s) := (cellOf hP).trans rfl
      have f0 : W.frozen? ⟨P, 0, none⟩ = false := frozenOf hP
      have c6 : W.cell? ⟨X, 0, none⟩ = some (.int .u64 t) := (cellOf hX).trans rfl
      have kk : (W.setCell ⟨P, 0, none⟩ (.int .u64 t)).heap[P]? = some (.cells #[.int .u64 t] 24) := heap_setCell_same W P 0 _ 24 (.int .u64 t) hP
      clear hP hX
      go_wp2
      go_round
      case rel => exact ⟨k + 1, t, by simp, by omega, kk, hbel5⟩
      case measure => simp [intOf]; omega
    · go_wp2
      go_ret
      exact ⟨_, rfl, rfl, by rw [HPP.out]; exact hbel⟩
end Go.Proofs.YtmfjieldgcdhoaaGreat
