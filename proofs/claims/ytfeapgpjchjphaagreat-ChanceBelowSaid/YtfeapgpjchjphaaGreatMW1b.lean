/-
  Wide random numbers: the closures that draw asks.
  Wide random numbers: the first candidate that is taken, or none of two hundred.
-/
import Derived.Test.YtfeapgpjchjphaaGreatMW1
import Derived.Test.YtfeapgpjchjphaaGreatMCH
import Derived.Lib.Hide
import Derived.Deep.RegionHeld3
set_option linter.all false
namespace Go.Proofs.YtfeapgpjchjphaaGreat
open Go Go.Rx Go.RowKit Go.Big Go.Shelf
attribute [local instance] noAv
theorem gets_of {f : FuncId} {xs : List Value} {x : Value} (h : Gives Tryz.prog f xs x) (W : World) : Calls Tryz.prog f xs.toArray W (Gets (fun _ r => r = x) W) :=
  ((h W).2).mono fun _ _ he => ⟨x, he.1, rfl, he.2⟩
/-- Block B holds the wide integer x. -/
def WideAt (B : Nat) (x : Int) (t : TypeId) (w : World) : Prop := ∃ a0 a1 a2 a3 a4 a5 a6 a7 : Int, W x = .agg #[.int .u64 a0, .int .u64 a1, .int .u64 a2, .int .u64 a3, .int .u64 a4, .int .u64 a5, .int .u64 a6, .int .u64 a7] ∧ w.heap[B]? = some (.cells #[.int .u64 a0, .int .u64 a1, .int .u64 a2, .int .u64 a3, .int .u64 a4, .int .u64 a5, .int .u64 a6, .int .u64 a7] t)
set_option maxHeartbeats 1600000 in
set_option maxRecDepth 100000 in
/-- One candidate. -/
theorem wide1_c {w : World} {X A L k : Nat} {s : Int} (hA : w.heap[A]? = some (.cells #[.pointer (some ⟨X, 0, none⟩)] 63)) (hL : w.heap[L]? = some (.cells #[.int .i64 (k : Int)] 3)) (hX : w.heap[X]? = some (.cells #[.int .u64 s] 88)) (hk : k ≤ 511) :
    Calls Tryz.prog 65 #[.pointer (some ⟨A, 0, none⟩), .pointer (some ⟨L, 0, none⟩)] w (fun e w' => e = .returned (W (candV k s)) ∧ w'.heap[X]? = some (.cells #[.int .u64 (stN (nd k) s)] 88) ∧ w.grownBy w' (some X)) := by
  have al := fun o => (Below.refl w.heap.size w).alloc (Nat.le_refl _) o
  have hA := fun o => keepH hA (al o)
  have hL := fun o => keepH hL (al o)
  have hX1 := fun o => keepH hX (al o)
  have hN := fun o => (MapKept.heap_alloc w o).1
  have cA := fun o => (cellOf (j := 0) (hA o)).trans (show (#[Value.pointer (some ⟨X, 0, none⟩)] : Array Value)[0]? = _ from rfl)
  have cL := fun o => (cellOf (j := 0) (hL o)).trans (show (#[Value.int .i64 (k : Int)] : Array Value)[0]? = _ from rfl)
  have lX := ltH hX
  have xN : w.heap.size ≠ X := Nat.ne_of_gt lX
  clear hA hL hX
  go_enter Tryz.func65, Tryz.ntmps65
  go_wp2_with fail
  refine (cwords_c (hX1 _) hk).mono ?_
  rintro e w2 ⟨rfl, hX2, hb⟩
  have hN2 := (hb.block w.heap.size (by simp) (fun e => xN (Option.some.inj e))).trans (hN _)
  have but := But.trans (But.of (r := some X) (al _)) hb
  obtain ⟨a0, a1, a2, a3, a4, a5, a6, a7, -, -, he⟩ := words_of (codeW_W hk s).2
  have HE := Lib.hid he
  rw [he]
  obtain ⟨y0, y1, y2, y3, y4, y5, y6, y7⟩ := eightC hN2
  have fz : ∀ j, w2.frozen? ⟨w.heap.size, j, none⟩ = false := fun j => frozenOf hN2
  have hfin := fun u0 u1 u2 u3 u4 u5 u6 u7 => But.set8 but (Nat.le_refl _) u0 u1 u2 u3 u4 u5 u6 u7
  have hX8 := fun u0 u1 u2 u3 u4 u5 u6 u7 => (heap_set8 (W := w2) (T := X) (B := w.heap.size) (Ne.symm xN) u0 u1 u2 u3 u4 u5 u6 u7).trans hX2
  clear he hb but hN2 hX2 cA cL hN hX1 al
  go_wp2
  exact bodyPost_ret (v := .agg #[.int .u64 a0, .int .u64 a1, .int .u64 a2, .int .u64 a3, .int .u64 a4, .int .u64 a5, .int .u64 a6, .int .u64 a7]) (by simp [results, Tryz.results65, go_sem, y0, y1, y2, y3, y4, y5, y6, y7]) rfl ⟨by rw [HE.out], hX8 _ _ _ _ _ _ _ _, hfin _ _ _ _ _ _ _ _⟩
set_option maxHeartbeats 1600000 in
set_option maxRecDepth 100000 in
/-- Whether it is taken. -/
theorem wide2_c {w : World} {N : Nat} {x n : Int} (hx : fit x) (hn : fit n) (hN : WideAt N n 26 w) :
    Calls Tryz.prog 67 #[W x, .pointer (some ⟨N, 0, none⟩)] w (Gets (fun _ r => r = .bool (decide (x < n))) w) := by
  have hc := fun U => gets_of (f_Cmp x n hx hn) U
  obtain ⟨b0, b1, b2, b3, b4, b5, b6, b7, hb, hN⟩ := hN
  obtain ⟨a0, a1, a2, a3, a4, a5, a6, a7, -, -, he⟩ := words_of hx
  have al := fun o => (Below.refl w.heap.size w).alloc (Nat.le_refl _) o
  have k1 := fun o => (MapKept.heap_alloc w o).1
  obtain ⟨y0, y1, y2, y3, y4, y5, y6, y7⟩ := eightC (keepH hN (al (.cells #[.int .u64 a0, .int .u64 a1, .int .u64 a2, .int .u64 a3, .int .u64 a4, .int .u64 a5, .int .u64 a6, .int .u64 a7] 26)))
  rw [hb, he] at hc
  rw [he]
  have hcm : decide (cmpI x n < 0) = decide (x < n) := by
    unfold cmpI
    split
    · rename_i h; simp [h]
    · rename_i h; split <;> simp [h]
  clear hN he hb k1
  go_enter Tryz.func67, Tryz.ntmps67
  go_wp2_with fail
  refine (hc _).mono ?_
  rintro e w2 ⟨r, rfl, rfl, hb2⟩
  have hB := (al _).trans (hb2.mono (by simp))
  clear hb2 hc
  go_wp2
  go_ret
  exact ⟨_, rfl, rfl, hB⟩
end Go.Proofs.YtfeapgpjchjphaaGreat
namespace Go.Proofs.YtfeapgpjchjphaaGreat
open Go Go.RowKit Go.Big Go.Shelf
attribute [local instance] noAv
attribute [local go_sem] Oper.semAt_some
/-- What one candidate does. -/
def CandAt (X A L : Nat) (kk : Int) (sN cv : Nat → Int) : Prop := ∀ i U, U.heap[X]? = some (.cells #[.int .u64 (sN i)] 88) → U.heap[A]? = some (.cells #[.pointer (some ⟨X, 0, none⟩)] 63) → U.heap[L]? = some (.cells #[.int .i64 kk] 3) →
    Calls Tryz.prog 65 #[.pointer (some ⟨A, 0, none⟩), .pointer (some ⟨L, 0, none⟩)] U (fun e w' => e = .returned (W (cv i)) ∧ w'.heap[X]? = some (.cells #[.int .u64 (sN (i + 1))] 88) ∧ U.grownBy w' (some X))
set_option maxHeartbeats 1600000 in
set_option maxRecDepth 100000 in
/-- Up to 200 candidates come, each from the state behind the one before. -/
theorem candw_in (l T X A L : Nat) (kk : Int) (sN cv : Nat → Int) (hC : CandAt X A L kk sN cv) (J Jx : Nat → World → Prop)
    (hJs : ∀ i U U', J i U → U.grownBy U' (some X) → J i U')
    (hY : ∀ i U, J i U → U.heap[X]? = some (.cells #[.int .u64 (sN (i + 1))] 88) → i < 200 → YieldAt Fence.wide 3 Tryz.prog l #[W (cv i)] U fun e U' =>
      (e = .returned (.bool true) ∧ J (i + 1) U' ∧ ∀ b, b = X ∨ b = T ∨ b = A ∨ b = L → U'.heap[b]? = U.heap[b]?) ∨ (e = .returned (.bool false) ∧ Jx (i + 1) U'))
    (U : World) (hXT : X ≠ T) (hXA : X ≠ A) (hXL : X ≠ L) (hT : U.heap[T]? = some (.cells #[.func (.func 65) #[] #[.pointer (some ⟨A, 0, none⟩), .pointer (some ⟨L, 0, none⟩)]] 37)) (hA : U.heap[A]? = some (.cells #[.pointer (some ⟨X, 0, none⟩)] 63)) (hL : U.heap[L]? = some (.cells #[.int .i64 kk] 3)) (hX : U.heap[X]? = some (.cells #[.int .u64 (sN 0)] 88)) (h0 : J 0 U) :
    CallsIn Fence.wide 4 Tryz.prog 95 #[.func (.yield l) #[] #[], .pointer (some ⟨T, 0, none⟩)] U fun e U' => (∃ v, e = .returned v) ∧ (J 200 U' ∨ ∃ i, i < 200 ∧ Jx (i + 1) U') := by
  refine callsIn_of_wp Tryz.func95 rfl trivial ?_ rfl
  simp only [Tryz.ntmps95, List.size_toArray, List.length_cons, List.length_nil, Nat.reduceAdd, Nat.reduceSub, Array.replicate_succ, Array.replicate_zero, List.push_toArray, List.append_toArray, List.nil_append, List.cons_append]
  gi_wp2
  gi_loopw [3] (fun p wr => ∃ i : Nat, p = .int .i64 i ∧ i ≤ 200 ∧ J i wr ∧ wr.heap[X]? = some (.cells #[.int .u64 (sN i)] 88) ∧ wr.heap[T]? = some (.cells #[.func (.func 65) #[] #[.pointer (some ⟨A, 0, none⟩), .pointer (some ⟨L, 0, none⟩)]] 37) ∧ wr.heap[A]? = some (.cells #[.pointer (some ⟨X, 0, none⟩)] 63) ∧ wr.heap[L]? = some (.cells #[.int .i64 kk] 3))
    (fun p _ => 200 - (intOf p).toNat)
  case atStart => exact ⟨0, rfl, by omega, h0, hX, hT, hA, hL⟩
  case round =>
    clear hX hT h0 hA hL
    obtain ⟨i, rfl, hi, hJ, hX, hT, hA, hL⟩ := hrel
    by_cases h2 : i < 200
    · have cT : wr.cell? ⟨T, 0, none⟩ = some (.func (.func 65) #[] #[.pointer (some ⟨A, 0, none⟩), .pointer (some ⟨L, 0, none⟩)]) := (cellOf hT).trans rfl
      gi_wp2
      refine ⟨trivial, ?_⟩
      refine (callsIn_wide.2 (hC i wr hX hA hL)).mono ?_
      rintro e W2 ⟨rfl, hX2, hb⟩
      have hJ2 := hJs i wr W2 hJ hb
      have hT2 := (hb.block T (ltH hT) (fun e => hXT (Option.some.inj e).symm)).trans hT
      have hA2 := (hb.block A (ltH hA) (fun e => hXA (Option.some.inj e).symm)).trans hA
      have hL2 := (hb.block L (ltH hL) (fun e => hXL (Option.some.inj e).symm)).trans hL
      clear hJ hX hT hA hL cT hb
      obtain ⟨fn, tmps, assign, body, hy, hR⟩ := hY i W2 hJ2 hX2 h2
      clear hY hJs
      gi_wp2
      refine hR.mono ?_
      rintro e W3 (⟨rfl, hJ3, hk⟩ | ⟨rfl, hJx⟩)
      · have eX := (hk X (.inl rfl)).trans hX2
        have eT := (hk T (.inr (.inl rfl))).trans hT2
        have eA := (hk A (.inr (.inr (.inl rfl)))).trans hA2
        have eL := (hk L (.inr (.inr (.inr rfl)))).trans hL2
        clear hX2 hT2 hA2 hL2 hJ2 hy hR hk
        gi_wp2
        exact ⟨⟨i + 1, by simp, by omega, hJ3, eX, eT, eA, eL⟩, by simp [intOf]; omega⟩
      · gi_wp2
        exact bodyPost_ret (results_none rfl _ _ _) rfl ⟨⟨_, rfl⟩, .inr ⟨i, h2, hJx⟩⟩
    · obtain rfl : i = 200 := by omega
      gi_wp2
      exact bodyPost_end (results_none rfl _ _ _) rfl ⟨⟨_, rfl⟩, .inl hJ⟩
end Go.Proofs.YtfeapgpjchjphaaGreat
