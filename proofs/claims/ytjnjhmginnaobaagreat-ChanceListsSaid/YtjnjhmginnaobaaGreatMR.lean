/-
  Split of the program.
  The law ChanceLists.
-/
import Derived.Test.YtjnjhmginnaobaaGreatMCA
import Derived.Test.YtjnjhmginnaobaaGreatMQ
import Derived.Lib.Hide
import Derived.Deep.RegionHeld3
import Derived.BigRegion
set_option linter.all false
namespace Go.Proofs.YtjnjhmginnaobaaGreat
open Go Go.RowKit Go.Big
attribute [local instance] noAv
set_option maxHeartbeats 1600000 in
set_option maxRecDepth 100000 in
theorem split_c {w : World} (s l : Int) : Calls Tryz.prog 11 #[.agg #[.int .u64 s], .int .i64 l] w (Gets (fun _ r => r = splitV s l) w) := by
  have h2 := fun o o' => heap2 w o o'
  have nb := fun o o' => next_below (w := w) (o := o) (o' := o')
  have sz : ∀ o o', ((w.alloc o).alloc o').heap.size = w.heap.size + 1 + 1 := fun o o' => by simp
  go_enter Tryz.func11, Tryz.ntmps11
  go_wp2_with fail
  refine (next_c _).mono ?_
  rintro e w2 ⟨r, rfl, rfl, hb⟩
  have k2 := (hb.block w.heap.size (by rw [sz]; omega)).trans (h2 _ _).1
  have k4 := (hb.block (w.heap.size + 1) (by rw [sz]; omega)).trans (h2 _ _).2
  have hw := (nb _ _).trans (hb.mono (by rw [sz]; omega))
  have hle := hb.size
  rw [sz] at hle
  clear hb h2 nb sz
  unfold nextV
  have c2 : w2.cell? ⟨w.heap.size, 0, none⟩ = some (.int .u64 s) := (cellOf k2).trans rfl
  have lt2 : w.heap.size < w2.heap.size := by omega
  go_wp2_with fail
  refine (next_c _).mono ?_
  rintro e w3 ⟨r, rfl, rfl, hb⟩
  have al := fun o => (Below.refl w2.heap.size w2).alloc (Nat.le_refl _) o
  have hb2 := (al _).trans (hb.mono (by simp))
  have k4 := (hb2.block (w.heap.size + 1) (by omega)).trans k4
  have hw := hw.trans (hb2.mono (by omega))
  have hle := Nat.le_trans hle hb2.size
  clear hb hb2 al k2 c2
  unfold nextV
  have c4 : w3.cell? ⟨w.heap.size + 1, 0, none⟩ = some (.int .u64 0) := (cellOf k4).trans rfl
  have f4 : w3.frozen? ⟨w.heap.size + 1, 0, none⟩ = false := frozenOf k4
  have lt4 : w.heap.size + 1 < w3.heap.size := by omega
  have k5 := fun v => heap_setCell_same w3 (w.heap.size + 1) 0 _ 24 v k4
  have c5 : ∀ v o, ((w3.setCell ⟨w.heap.size + 1, 0, none⟩ v).alloc o).cell? ⟨w.heap.size + 1, 0, none⟩ = some v := fun v o => (cellOf ((((Below.refl _ _).alloc (Nat.le_refl _) o).block (w.heap.size + 1) (by simp; omega)).trans (k5 v))).trans rfl
  have hw5 : ∀ v o, Below w.heap.size w ((w3.setCell ⟨w.heap.size + 1, 0, none⟩ v).alloc o) := fun v o => (hw.setCell (p := ⟨w.heap.size + 1, 0, none⟩) (Nat.le_succ _) v).alloc (by simp; omega) o
  clear k5 hw k4
  go_wp2
  exact bodyPost_ret (v := splitV s l) (by simp [results, Tryz.results11, go_sem, splitV, c5]) rfl ⟨_, rfl, rfl, hw5 _ _⟩
end Go.Proofs.YtjnjhmginnaobaaGreat
namespace Go.Proofs.YtjnjhmginnaobaaGreat
open Go Go.RowKit Go.Big
attribute [local instance] noAv
/-- The numbers so far. -/
def LsOne (w6 : World) (n : Nat) (a : Value) (wr : World) : Prop := ∃ i : Nat, a = .int .i64 i ∧ i ≤ n ∧ wr = w6
/-- The exchanges so far. -/
def LsTwo (w : World) (A B H n : Nat) (s1 : Int) (l : List Int) (a : Value) (wr : World) : Prop :=
  ∃ (p : Nat) (s2 : Int) (l1 : List Int), a = .int .i64 ((p : Int) - 1) ∧ p ≤ n ∧ (p = 0 → n = 0) ∧ l1.length = n ∧ IntsPre H l1 wr ∧ wr.heap[w.heap.size]? = some (.cells #[.int .u64 s2] 24) ∧ wr.heap[A]? = some (.cells #[.int .u64 s1] 24) ∧ IntsAt B l wr ∧ Below w.heap.size w wr ∧ ShufV (p - 1) s2 l1 (some (s1, l))
set_option maxHeartbeats 3200000 in
set_option maxRecDepth 100000 in
theorem lists_law {w : World} (hworks : ∀ U : World, Calls Tryz.prog 5 #[] U (Gets (fun _ r => r = .bool true) U)) (s a b : Int) (n : Nat) (hn : n ≤ 255) (hab : ∀ x, (splitS x a = splitS x b) ↔ a = b) :
    Calls Tryz.prog 3 #[.agg #[.int .u64 s], .int .u8 (n : Int), .int .i64 a, .int .i64 b] w (Gets (fun _ r => r = .bool true) w) := by
  have k1 := fun o => (MapKept.heap_alloc w o).1
  have nb := fun o => (Below.refl w.heap.size w).alloc (Nat.le_refl _) o
  have hw : wrap64 (n : Int) = n := by unfold wrap64; omega
  go_enter Tryz.func3, Tryz.ntmps3
  go_wp2_with fail
  refine (hworks _).mono ?_
  rintro e w1 ⟨r, rfl, rfl, hb1⟩
  have k1 := keepH (k1 _) hb1
  have belw := (nb _).trans (hb1.mono (by simp))
  have c1 : w1.cell? ⟨w.heap.size, 0, none⟩ = some (.int .u64 s) := (cellOf k1).trans rfl
  clear nb hb1
  go_wp2_with fail
  refine (shuffle_c (s := s) (n := n) (by omega)).mono ?_
  rintro e w2 ⟨r, rfl, ⟨o, hV, hr⟩, hb2⟩
  have k2 := keepH k1 hb2
  have belw := belw.trans (hb2.mono belw.size)
  clear hb2 c1 k1
  rcases hr with ⟨s1, l, B, rfl, hl, rfl, hI⟩ | ⟨rfl, rfl⟩
  · have bal := (Below.refl w2.heap.size w2).alloc (Nat.le_refl _) (.cells #[.int .u64 s1] 24)
    have k3 := keepH k2 bal
    have q10 := (MapKept.heap_alloc w2 (.cells #[.int .u64 s1] 24)).1
    have hI := hI.below bal (ltH hI)
    have belw := belw.trans (bal.mono belw.size)
    have c3 : (w2.alloc (.cells #[.int .u64 s1] 24)).cell? ⟨w.heap.size, 0, none⟩ = some (.int .u64 s) := (cellOf k3).trans rfl
    have l2 := ltH k2
    clear bal k2
    go_wp2_with fail
    refine (shuffle_c (s := s) (n := n) (by omega)).mono ?_
    rintro e w3 ⟨r, rfl, ⟨o, hV2, hr⟩, hb3⟩
    have ho := shufV_inj _ hV hV2
    clear hV2
    rcases hr with ⟨s2, l2', B2, rfl, hl2, rfl, hI2⟩ | ⟨rfl, rfl⟩
    · simp only [Option.some.injEq, Prod.mk.injEq] at ho
      obtain ⟨rfl, rfl⟩ := ho
      have k3 := keepH k3 hb3
      have q10 := keepH q10 hb3
      have hI := hI.below hb3 (ltH hI)
      have belw := belw.trans (hb3.mono belw.size)
      have bal := (Below.refl w3.heap.size w3).alloc (Nat.le_refl _) (.cells #[.int .u64 s1] 24)
      have l3 := ltH k3
      have k4 := keepH k3 bal
      have q10 := keepH q10 bal
      have q13 := (MapKept.heap_alloc w3 (.cells #[.int .u64 s1] 24)).1
      have hI := hI.below bal (ltH hI)
      have hI2 := hI2.below bal (ltH hI2)
      have belw := belw.trans (bal.mono belw.size)
      have R1 : RowK .i64 (w3.alloc (.cells #[.int .u64 s1] 24)) (.slice (some ⟨B, 0, none⟩) n n) l := by have := hI.pre.row (c := n) (by omega); rwa [hl] at this
      have R2 : RowK .i64 (w3.alloc (.cells #[.int .u64 s1] 24)) (.slice (some ⟨B2, 0, none⟩) n n) l := by have := hI2.pre.row (c := n) (by omega); rwa [hl] at this
      clear hI2 hb3 bal c3 k3 hl2
      go_wp2_with fail
      refine (equal_c R1 R2 (by omega)).mono ?_
      rintro e w4 ⟨r, rfl, rfl, hb4⟩
      have k4 := keepH k4 hb4
      have q10 := keepH q10 hb4
      have q13 := keepH q13 hb4
      have hI := hI.below hb4 (ltH hI)
      have belw := belw.trans (hb4.mono belw.size)
      have c10 : w4.cell? ⟨w2.heap.size, 0, none⟩ = some (.int .u64 s1) := (cellOf q10).trans rfl
      have c13 : w4.cell? ⟨w3.heap.size, 0, none⟩ = some (.int .u64 s1) := (cellOf q13).trans rfl
      have hI4 := ltH hI
      have hq4 := ltH q10
      clear R1 R2 hb4
      go_wp2_with fail
      have hcl := clone_c (c := n) hI.pre (by omega)
      rw [hl] at hcl
      refine hcl.mono ?_
      rintro e w5 ⟨r, rfl, ⟨g, cap, rfl, hcap, hg, hS⟩, hb5⟩
      clear hcl
      have k5 := keepH k4 hb5
      have q10 := keepH q10 hb5
      have hI := hI.below hb5 (ltH hI)
      have belw := belw.trans (hb5.mono belw.size)
      have lB := ltH hI
      have l4 := ltH k4
      have hBg : B < w4.heap.size := hI4
      have h10 : w2.heap.size < w4.heap.size := hq4
      clear hb5 k4 hI4 hq4 q13 c10 c13
      go_wp2_with fail
      have hso := sort_c (c := cap) hS (by omega)
      rw [hl] at hso
      refine hso.mono ?_
      rintro e w6 ⟨rfl, hS6, hgr⟩
      clear hso hS
      rw [sort_firstN (shufV_perm (n - 1) (by rw [firstN_length]; omega) hV)] at hS6
      have k6 := (hgr.block w.heap.size (ltH k5) (by simp; omega)).trans k5
      have q10 := (hgr.block w2.heap.size (ltH q10) (by simp; omega)).trans q10
      have hI : IntsAt B l w6 := (hgr.block B (ltH hI) (by simp; omega)).trans hI
      have belw := belw.grown hgr belw.size (fun k hk => by cases hk; omega)
      clear k5 hgr lB
      go_wp2_with fail
      go_loopw [76] (LsOne w6 n) (fun i _ => n - (intOf i).toNat)
      case atStart => exact ⟨0, rfl, Nat.zero_le _, rfl⟩
      case round =>
        obtain ⟨i, rfl, hi, rfl⟩ := hrel
        by_cases h8 : n = i
        · subst h8
          have hI0 := hI
          have q100 := q10
          go_wp2_with fail
          have hlf := firstN_length n
          have hcl := clone_c (c := cap) hS6 (by omega)
          rw [hlf] at hcl
          refine hcl.mono ?_
          rintro e w7 ⟨r, rfl, ⟨H, cap2, rfl, hcap2, hH, hS⟩, hb7⟩
          have k7 := keepH k6 hb7
          have q10 := keepH q10 hb7
          have hI := hI.below hb7 (ltH hI)
          have belw := belw.trans (hb7.mono belw.size)
          have hBH : B ≠ H := by have := ltH hI0; omega
          have h0H : w.heap.size < H := by have := ltH k6; omega
          have h1H : w2.heap.size < H := by have := ltH q100; omega
          have hB0 : B ≠ w.heap.size := fun e => by
            rw [e] at hI
            have := hI.symm.trans k7
            simp at this
          have h12 : w.heap.size < w2.heap.size := l2
          clear hcl hb7 k6 hS6 hH hi hI0 q100
          go_wp2_with fail
          go_loopw [19] (LsTwo w w2.heap.size B H n s1 l) (fun i _ => (intOf i + 1).toNat)
          case atStart => exact ⟨n, s, firstN n, rfl, Nat.le_refl _, fun h => h, firstN_length n, hS, k7, q10, hI, belw, hV⟩
          case round =>
            clear hS k7 q10 hI belw hV
            obtain ⟨p, s2, l1, rfl, hp, hp0, hl1, I, q1z, q10z, hIz, belz, hV⟩ := hrel
            by_cases h2 : 2 ≤ p
            · have q1 := q1z
              have q10 := q10z
              have hI := hIz
              have belw := belz
              clear q1z q10z hIz belz
              obtain ⟨i, rfl⟩ : ∃ i, p = i + 2 := ⟨p - 2, by omega⟩
              have e1 : ((i + 2 : Nat) : Int) - 1 = ((i + 1 : Nat) : Int) := by omega
              rw [e1]
              clear e1
              obtain ⟨m, hm⟩ : ∃ m : Nat, m = i + 1 := ⟨_, rfl⟩
              rw [← hm]
              have m1 : (1 : Int) ≤ (m : Int) := by omega
              have m2 : (m : Int) + 1 ≤ 400 := by omega
              obtain ⟨K, s3, hK, hBV, hV⟩ : ∃ (K : Nat) (s3 : Int), K < m + 1 ∧ BelowV s2 ((m : Int) + 1) (.tuple #[.int .i64 K, .agg #[.int .u64 s3], .int .i64 0]) ∧ ShufV i s3 (swapL l1 m K) (some (s1, l)) := by
                subst hm
                rcases hV with ⟨K, s3, hK, hBV, hV⟩ | ⟨-, h⟩
                · exact ⟨K, s3, hK, by rw [show (((i + 1 : Nat) : Int) + 1) = (i : Int) + 2 by omega]; exact hBV, hV⟩
                · cases h
              have HM := Lib.hid hm
              have c1 : wr.cell? ⟨w.heap.size, 0, none⟩ = some (.int .u64 s2) := (cellOf q1).trans rfl
              clear hm
              go_wp2_with fail
              refine (Below_c (s := s2) (n := (m : Int) + 1) (by omega) (by omega)).mono ?_
              rintro e w8 ⟨r8, rfl, hV8, hb8⟩
              obtain rfl := belowV_inj hBV hV8
              have I := I.below hb8 I.lt
              have q1 := keepH q1 hb8
              have q10 := keepH q10 hb8
              have hI := hI.below hb8 (ltH hI)
              have belw := belw.trans (hb8.mono belw.size)
              clear hb8 hV8 hBV c1
              have bal : Below w8.heap.size w8 (w8.alloc (.cells #[.int .u64 s3] 24)) := (Below.refl _ _).alloc (Nat.le_refl _) _
              have q21 := (MapKept.heap_alloc w8 (.cells #[.int .u64 s3] 24)).1
              have lH8 := I.lt
              have I := I.below bal I.lt
              have q1 := keepH q1 bal
              have q10 := keepH q10 bal
              have hI := hI.below bal (ltH hI)
              have belw := belw.trans (bal.mono belw.size)
              have HQ1 := Lib.hid q1
              have HQ10 := Lib.hid q10
              have HI := Lib.hid hI
              have HI1 := Lib.hid I
              have HB := Lib.hid belw
              have HV := Lib.hid hV
              have HQ21 := Lib.hid q21
              clear q1 q10 hI I belw hV bal q21
              have hK0 : ¬ (K : Int) < 0 := by omega
              have hKm' : ¬ (K : Int) > (m : Int) := by omega
              go_wp2_with fail
              clear hK0 hKm'
              have lm : m < l1.length := by have := HM.out; omega
              have lk : K < l1.length := by have := HM.out; omega
              have x21 : w8.heap.size ≠ H := by omega
              have x0 : w.heap.size ≠ H := by omega
              have xA : w2.heap.size ≠ H := by omega
              generalize hX : w8.heap.size = X at *
              generalize w8.alloc (.cells #[.int .u64 s3] 24) = w9 at *
              have cm : w9.cell? ⟨H, m, none⟩ = _ := HI1.out.cell lm
              have ck : w9.cell? ⟨H, K, none⟩ = _ := HI1.out.cell lk
              have fm : w9.frozen? ⟨H, m, none⟩ = false := HI1.out.fz m
              have fk : w9.frozen? ⟨H, K, none⟩ = false := HI1.out.fz K
              obtain ⟨wS, hwS⟩ : ∃ wS, wS = ((w9.setCell ⟨H, m, none⟩ (.int .i64 (l1.getD K 0))).setCell ⟨H, K, none⟩ (.int .i64 (l1.getD m 0))).drew := ⟨_, rfl⟩
              have far : ∀ T, T ≠ H → wS.heap[T]? = w9.heap[T]? := fun T hT => by
                rw [hwS]
                show ((w9.setCell ⟨H, m, none⟩ (.int .i64 (l1.getD K 0))).setCell ⟨H, K, none⟩ (.int .i64 (l1.getD m 0))).heap[T]? = _
                rw [setFar (by show T ≠ H; exact hT), setFar (by show T ≠ H; exact hT)]
              have g21 := (far X x21).trans HQ21.out
              have g0 := (far w.heap.size x0).trans HQ1.out
              have gA := (far w2.heap.size xA).trans HQ10.out
              have gB : IntsAt B l wS := (far B hBH).trans HI.out
              have gI : IntsPre H (swapL l1 m K) wS := by
                rw [hwS]
                exact (HI1.out.set lm _).set (by simpa using lk) _
              have gb : Below w.heap.size w wS := by
                rw [hwS]
                exact ((HB.out.setCell (p := ⟨H, m, none⟩) (by show w.heap.size ≤ H; omega) _).setCell (p := ⟨H, K, none⟩) (by show w.heap.size ≤ H; omega) _).drew
              have s21 : wS.cell? ⟨X, 0, none⟩ = some (.int .u64 s3) := (cellOf g21).trans rfl
              have s0 : wS.cell? ⟨w.heap.size, 0, none⟩ = some (.int .u64 s2) := (cellOf g0).trans rfl
              have z0 : wS.frozen? ⟨w.heap.size, 0, none⟩ = false := frozenOf g0
              have hfin : LsTwo w w2.heap.size B H n s1 l (.int .i64 ((m : Int) - 1)) (wS.setCell ⟨w.heap.size, 0, none⟩ (.int .u64 s3)) := by
                refine ⟨m, s3, swapL l1 m K, rfl, by have := HM.out; omega, by have := HM.out; omega, by rw [swapL_length, hl1], gI.far (a := ⟨w.heap.size, 0, none⟩) (by show H ≠ w.heap.size; omega) _, heap_setCell_same _ w.heap.size 0 _ 24 (.int .u64 s3) g0, (setFar (a := ⟨w.heap.size, 0, none⟩) (by show w2.heap.size ≠ w.heap.size; omega) _).trans gA, (setFar (a := ⟨w.heap.size, 0, none⟩) (by show B ≠ w.heap.size; exact hB0) _).trans gB, gb.setCell (p := ⟨w.heap.size, 0, none⟩) (Nat.le_refl _) _, ?_⟩
                have := HV.out
                rw [show m - 1 = i by have := HM.out; omega]
                exact this
              have k0 : (0 : Int) ≤ (K : Int) := by omega
              have kn : (K : Int) < (n : Int) := by have := HM.out; omega
              have m0 : (0 : Int) ≤ (m : Int) := by omega
              have m3 : (m : Int) < (n : Int) := by have := HM.out; omega
              generalize l1.getD K 0 = y1 at *
              generalize l1.getD m 0 = y2 at *
              have HWS := Lib.hid hwS
              clear HI1 HI HB HQ1 HQ10 HQ21 HV lm lk x21 x0 xA far g21 g0 gA gB gI gb hB0 hBH
              by_cases hKm : K = m
              · subst hKm
                have e : y2 = y1 := by have := cm.symm.trans ck; simpa using this
                subst e
                clear cm fm hwS
                go_wp2_with fail
                go_region
                rw [← HWS.out]
                clear HWS
                go_wp2
                go_roundw
                case rel => exact hfin
                case measure => simp [intOf]
              · have n1 : K ≠ m := hKm
                have n2 : m ≠ K := fun h => hKm h.symm
                clear hwS
                go_wp2_with fail
                go_region
                rw [← HWS.out]
                clear HWS
                go_wp2
                go_roundw
                case rel => exact hfin
                case measure => simp [intOf]
            · obtain ⟨rfl, rfl⟩ : s2 = s1 ∧ l1 = l := by
                have h : ShufV 0 s2 l1 (some (s1, l)) := by rw [show p - 1 = 0 by omega] at hV; exact hV
                have h : some (s1, l) = some (s2, l1) := h
                simp only [Option.some.injEq, Prod.mk.injEq] at h
                exact ⟨h.1.symm, h.2.symm⟩
              have hlt : ¬ ((p : Int) - 1 ≥ 1) := by omega
              have hln : l1.length ≤ 400 := by omega
              have R1 : RowK .i64 wr.drew (.slice (some ⟨H, 0, none⟩) n cap2) l1 := by have := I.row (c := cap2) (by omega); rw [hl1] at this; exact this
              have R2 : RowK .i64 wr.drew (.slice (some ⟨B, 0, none⟩) n n) l1 := by have := hIz.pre.row (c := n) (by omega); rw [hl1] at this; exact this
              have hS : ∀ W, Below wr.heap.size wr W → W.cell? ⟨w.heap.size, 0, none⟩ = some (.int .u64 s2) ∧ W.cell? ⟨w2.heap.size, 0, none⟩ = some (.int .u64 s2) := fun W hW => ⟨(cellOf (keepH q1z hW)).trans rfl, (cellOf (keepH q10z hW)).trans rfl⟩
              have t1 : Below wr.heap.size wr wr.drew := (Below.refl _ _).drew
              have hfin : ∀ W, Below wr.heap.size wr W → Below w.heap.size w W := fun W hW => belz.trans (hW.mono belz.size)
              obtain ⟨xa, xb, hxa, hxb, hx⟩ : ∃ xa xb, splitV s2 a = .agg #[.int .u64 xa] ∧ splitV s2 b = .agg #[.int .u64 xb] ∧ (xa = xb ↔ a = b) := ⟨_, _, rfl, rfl, hab s2⟩
              clear hV I q1z q10z hIz belz hp hp0 h2 hBH h0H h1H hB0 h12 hcap hcap2
              go_wp2_with fail
              by_cases hq : a = b
              · obtain rfl := hq
                obtain rfl := hx.2 rfl
                go_region_held3 (fun w' => w'.cell? ⟨w.heap.size, 0, none⟩ = some (.int .u64 s2) ∧ w'.cell? ⟨w2.heap.size, 0, none⟩ = some (.int .u64 s2))
                  ((refine hS _ ?_; with_reducible first | exact t1 | exact t2 | exact t3 | exact t4))
                  (first | (go_at_call 7; ((with_reducible refine (equal_c R1 R2 hln).mono ?_); rintro e w10 ⟨r, rfl, rfl, hb10⟩; have t2 := t1.trans (hb10.mono t1.size)))
                         | (go_at_call 11; ((with_reducible refine (split_c _ _).mono ?_); rintro e w11 ⟨r, rfl, hr, hb11⟩; (first | rw [hxa] at hr | rw [hxb] at hr); subst hr; first | (have t4 := t3.trans (hb11.mono t3.size)) | (have t3 := t2.trans (hb11.mono t2.size)))))
                go_wp2
                go_ret
                exact ⟨_, rfl, rfl, hfin _ t4⟩
              · have hx1 : ¬ xa = xb := fun h => hq (hx.1 h)
                have hx2 : (xa == xb) = false := by simpa using hx1
                have hq2 : (a == b) = false := by simpa using hq
                clear hx
                go_region_held3 (fun w' => w'.cell? ⟨w.heap.size, 0, none⟩ = some (.int .u64 s2) ∧ w'.cell? ⟨w2.heap.size, 0, none⟩ = some (.int .u64 s2))
                  ((refine hS _ ?_; with_reducible first | exact t1 | exact t2 | exact t3 | exact t4))
                  (first | (go_at_call 7; ((with_reducible refine (equal_c R1 R2 hln).mono ?_); rintro e w10 ⟨r, rfl, rfl, hb10⟩; have t2 := t1.trans (hb10.mono t1.size)))
                         | (go_at_call 11; ((with_reducible refine (split_c _ _).mono ?_); rintro e w11 ⟨r, rfl, hr, hb11⟩; (first | rw [hxa] at hr | rw [hxb] at hr); subst hr; first | (have t4 := t3.trans (hb11.mono t3.size)) | (have t3 := t2.trans (hb11.mono t2.size)))))
                go_wp2
                go_ret
                exact ⟨_, rfl, rfl, hfin _ t4⟩
        · have i0 : (0 : Int) ≤ (i : Int) := by omega
          have i1 : (i : Int) < (n : Int) := by omega
          have ci : wr.cell? ⟨g, i, none⟩ = some (.int .i64 (i : Int)) := by
            rw [hS6.cell (by rw [firstN_length]; omega)]
            simp [firstN, List.getD, show i < n by omega]
          have hfin : LsOne wr n (.int .i64 ((i : Int) + 1)) wr := ⟨i + 1, rfl, by omega, rfl⟩
          clear k6 q10 hI belw hS6 hV h8
          go_wp2
          go_roundw
          case rel => exact hfin
          case measure => simp [intOf]; omega
    · cases ho
  · have bal := (Below.refl w2.heap.size w2).alloc (Nat.le_refl _) (.cells #[.int .u64 0] 24)
    have k3 := keepH k2 bal
    have belw := belw.trans (bal.mono belw.size)
    have c3 : (w2.alloc (.cells #[.int .u64 0] 24)).cell? ⟨w.heap.size, 0, none⟩ = some (.int .u64 s) := (cellOf k3).trans rfl
    clear bal k2
    go_wp2_with fail
    refine (shuffle_c (s := s) (n := n) (by omega)).mono ?_
    rintro e w3 ⟨r, rfl, ⟨o, hV2, hr⟩, hb3⟩
    have ho := shufV_inj _ hV hV2
    rcases hr with ⟨s2, l2', B2, rfl, hl2, rfl, hI2⟩ | ⟨rfl, rfl⟩
    · cases ho
    · have belw := (belw.trans (hb3.mono belw.size)).alloc (by have := belw.size; have := hb3.size; omega) (.cells #[.int .u64 0] 24)
      clear hb3 c3 k3 hV2
      go_wp2
      go_ret
      exact ⟨_, rfl, rfl, belw⟩
end Go.Proofs.YtjnjhmginnaobaaGreat
