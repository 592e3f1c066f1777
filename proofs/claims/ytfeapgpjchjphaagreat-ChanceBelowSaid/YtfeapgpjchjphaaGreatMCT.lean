/-
  Shuffle for every number: the two loops.
-/
import Derived.Test.YtfeapgpjchjphaaGreatMCS
import Derived.BigRegion
set_option linter.all false
namespace Go.Proofs.YtfeapgpjchjphaaGreat
open Go Go.RowKit Go.Big Go.Shelf
attribute [local instance] noAv
theorem okn_range {s n : Int} {i : Nat} (h1 : 1 ≤ n) (h2 : n ≤ 400) : ∃ k : Nat, wrap64 ((mix (stN i s)).tmod n) = (k : Int) ∧ (k : Int) < n := by
  have h0 : 0 ≤ mix (stN i s) := by unfold mix mx3; exact bits_lo_u64 _ _ _
  rw [Int.tmod_eq_emod_of_nonneg h0]
  have a := Int.emod_nonneg (mix (stN i s)) (show n ≠ 0 by omega)
  have b := Int.emod_lt_of_pos (mix (stN i s)) (show 0 < n by omega)
  generalize mix (stN i s) % n = x at *
  refine ⟨x.toNat, ?_, by omega⟩
  unfold wrap64; omega
theorem setFar {w : World} {a : Addr} {T : Nat} (h : T ≠ a.block) (v : Value) : (w.setCell a v).heap[T]? = w.heap[T]? := by
  simp [World.setCell, Array.getElem?_modify, h.symm]
/-- The state of the first loop. -/
def ShOne (wA : World) (B n : Nat) (a : Value) (wr : World) : Prop :=
  ∃ j : Nat, a = .int .i64 j ∧ j ≤ n ∧ IntsAt B (partN n j) wr ∧ Below B wA wr
/-- The state of the second loop. -/
def ShTwo (wA : World) (B X n : Nat) (s0 : Int) (a : Value) (wr : World) : Prop :=
  ∃ (p : Nat) (s : Int) (l : List Int), a = .int .i64 ((p : Int) - 1) ∧ p ≤ n ∧ (p = 0 → n = 0) ∧ l.length = n ∧ IntsAt B l wr ∧ Below B wA wr ∧ wr.heap[X]? = some (.cells #[.int .u64 s] 88) ∧ (∀ o, ShufV (p - 1) s l o → ShufV (n - 1) s0 (firstN n) o)
/-- What Shuffle hands back. -/
def ShufP (n : Nat) (s : Int) (w' : World) (r : Value) : Prop :=
  ∃ o, ShufV (n - 1) s (firstN n) o ∧ ((∃ (s' : Int) (l : List Int) (B : Nat), o = some (s', l) ∧ l.length = n ∧ r = .tuple #[.slice (some ⟨B, 0, none⟩) n n, .agg #[.int .u64 s'], .int .i64 0] ∧ IntsAt B l w')
    ∨ (o = none ∧ r = .tuple #[.slice none 0 0, .agg #[.int .u64 0], .int .i64 9]))
set_option maxHeartbeats 3200000 in
set_option maxRecDepth 100000 in
theorem shuffle_c {w : World} {s : Int} {n : Nat} (hn : n ≤ 400) : Calls Tryz.prog 13 #[.agg #[.int .u64 s], .int .i64 (n : Int)] w (Gets (ShufP n s) w) := by
  have n0 : ¬ (n : Int) < 0 := by omega
  have n1 : ¬ (n : Int) > 400 := by omega
  have nb := fun o o' => next_below (w := w) (o := o) (o' := o')
  have sz2 : ∀ o o', ((w.alloc o).alloc o').heap.size = w.heap.size + 1 + 1 := fun o o' => by simp
  have k2 := fun o o' => (heap2 w o o').2
  have k1 := fun o o' => (heap2 w o o').1
  have mk := fun U => make_n U n hn
  go_enter Tryz.func13, Tryz.ntmps13
  go_wp2_with fail
  have k1 := k1 (.cells #[.int .u64 s] 24) (.cells #[.int .u64 0] 24)
  have k2 := k2 (.cells #[.int .u64 s] 24) (.cells #[.int .u64 0] 24)
  have nb := nb (.cells #[.int .u64 s] 24) (.cells #[.int .u64 0] 24)
  have sz2 := sz2 (.cells #[.int .u64 s] 24) (.cells #[.int .u64 0] 24)
  generalize hwA : (w.alloc (.cells #[.int .u64 s] 24)).alloc (.cells #[.int .u64 0] 24) = wA at *
  have I0 : IntsAt wA.heap.size (partN n 0) (wA.alloc (.cells ((partN n 0).map (Value.int .i64)).toArray 3)) := (MapKept.heap_alloc wA _).1
  have B0 : Below wA.heap.size wA (wA.alloc (.cells ((partN n 0).map (Value.int .i64)).toArray 3)) := (Below.refl _ wA).alloc (Nat.le_refl _) _
  rw [sz2] at I0 B0
  obtain ⟨T, hT⟩ : ∃ T : Nat, T = w.heap.size + 1 + 1 := ⟨_, rfl⟩
  rw [← hT] at I0 B0 sz2
  have HT := Lib.hid hT
  have HZ := Lib.hid sz2
  clear mk n0 n1
  rw [← hT]
  clear hT sz2
  go_loopw [24] (ShOne wA T n) (fun i _ => n - (intOf i).toNat)
  case atStart => exact ⟨0, rfl, Nat.zero_le _, I0, B0⟩
  case round =>
    obtain ⟨j, rfl, hj, I, hb⟩ := hrel
    by_cases h8 : n = j
    · subst h8
      have q1 := (hb.block w.heap.size (by rw [HT.out]; omega)).trans k1
      have q2 := (hb.block (w.heap.size + 1) (by rw [HT.out]; omega)).trans k2
      have HI := Lib.hid I
      have HB := Lib.hid hb
      have HK := Lib.hid k2
      have c1 : wr.cell? ⟨w.heap.size, 0, none⟩ = some (.int .u64 s) := (cellOf q1).trans rfl
      clear I hb I0 B0 k1 k2 q1
      go_wp2_with fail
      refine (from_c s).mono ?_
      rintro e w2 ⟨r, rfl, ⟨X, rfl, hX, hle⟩, hb2⟩
      have lT := ltH HI.out
      have I2 : IntsAt T (firstN n) w2 := by rw [← partN_all]; exact HI.out.below hb2 lT
      have B2 : Below T wA w2 := HB.out.trans (hb2.mono (Nat.le_of_lt lT))
      have hTX : T + 1 ≤ X := by omega
      have q2 := (hb2.block (w.heap.size + 1) (by rw [HT.out] at lT; omega)).trans q2
      clear hb2 HI HB c1 lT hle
      go_wp2_with fail
      go_loopw [10] (ShTwo wA T X n s) (fun i _ => (intOf i + 1).toNat)
      case atStart => exact ⟨n, s, firstN n, rfl, Nat.le_refl _, fun h => h, firstN_length n, I2, B2, hX, fun o h => h⟩
      case round =>
        clear I2 B2 hX q2
        obtain ⟨p, s1, l, rfl, hp, hp0, hl, I, hb, hX, hS⟩ := hrel
        by_cases h2 : 2 ≤ p
        · obtain ⟨i, rfl⟩ : ∃ i, p = i + 2 := ⟨p - 2, by omega⟩
          have e1 : ((i + 2 : Nat) : Int) - 1 = ((i + 1 : Nat) : Int) := by omega
          rw [e1]
          clear e1
          obtain ⟨m, hm⟩ : ∃ m : Nat, m = i + 1 := ⟨_, rfl⟩
          rw [← hm]
          have m1 : (1 : Int) ≤ (m : Int) := by omega
          have m2 : (m : Int) + 1 ≤ 400 := by omega
          have q2 := (hb.block (w.heap.size + 1) (by rw [HT.out]; omega)).trans HK.out
          have HQ := Lib.hid q2
          clear q2
          have HM := Lib.hid hm
          have HS := Lib.hid hS
          have HI := Lib.hid I
          have HB := Lib.hid hb
          have HX := Lib.hid hX
          clear hm hS I hb hX
          go_wp2_with fail
          refine (below_c (n0 := T + 1) HX.out hTX (by omega) (by omega)).mono ?_
          rintro e w3 ⟨hb3, ⟨k, hk, hno, hok, rfl, hX3⟩ | ⟨hno, x, rfl⟩⟩
          · have I3 : IntsAt T l w3 := HI.out.below hb3 (Nat.lt_succ_self _)
            have B3 : Below T wA w3 := HB.out.trans (hb3.mono (Nat.le_succ _))
            obtain ⟨K, hK, hKn⟩ := okn_range (s := s1) (i := k) (n := (m : Int) + 1) (by omega) m2
            have BV : BelowV s1 ((m : Int) + 1) (.tuple #[.int .i64 K, .agg #[.int .u64 (stN (k + 1) s1)], .int .i64 0]) := .inl ⟨k, hk, hno, hok, by rw [hK]⟩
            rw [hK]
            generalize stN (k + 1) s1 = s3 at *
            have lm : m < l.length := by have := HM.out; omega
            have lk : K < l.length := by have := HM.out; omega
            have cm : w3.cell? ⟨T, m, none⟩ = _ := I3.cell lm
            have ck : w3.cell? ⟨T, K, none⟩ = _ := I3.cell lk
            have fm : w3.frozen? ⟨T, m, none⟩ = false := I3.fz m
            have fk : w3.frozen? ⟨T, K, none⟩ = false := I3.fz K
            have hfin : ShTwo wA T X n s (.int .i64 ((m : Int) - 1)) ((w3.setCell ⟨T, m, none⟩ (.int .i64 (l.getD K 0))).setCell ⟨T, K, none⟩ (.int .i64 (l.getD m 0))).drew := by
              refine ⟨m, s3, swapL l m K, rfl, by have := HM.out; omega, by have := HM.out; omega, by rw [swapL_length, hl], IntsAt.set (IntsAt.set I3 m _) K _, (((B3.setCell (p := ⟨T, m, none⟩) (Nat.le_refl _) _).setCell (p := ⟨T, K, none⟩) (Nat.le_refl _) _)).drew, ?_, fun o ho => HS.out o ?_⟩
              · show ((w3.setCell ⟨T, m, none⟩ (.int .i64 (l.getD K 0))).setCell ⟨T, K, none⟩ (.int .i64 (l.getD m 0))).heap[X]? = _
                rw [setFar (by show X ≠ T; omega), setFar (by show X ≠ T; omega)]; exact hX3
              · have e := HM.out
                subst e
                refine .inl ⟨K, s3, by omega, ?_, ho⟩
                rw [show ((i : Int) + 2) = ((i + 1 : Nat) : Int) + 1 by omega]
                exact BV
            have k0 : (0 : Int) ≤ (K : Int) := by omega
            have k1 : (K : Int) < (n : Int) := by have := HM.out; omega
            have m0 : (0 : Int) ≤ (m : Int) := by omega
            have m3 : (m : Int) < (n : Int) := by have := HM.out; omega
            generalize l.getD K 0 = y1 at *
            generalize l.getD m 0 = y2 at *
            clear I3 B3 BV hX3 hb3 hno hok HI HB HX HS HQ lm lk hK
            by_cases hKm : K = m
            · subst hKm
              have e : y2 = y1 := by have := cm.symm.trans ck; simpa using this
              subst e
              clear cm fm
              go_wp2
              go_region
              go_wp2
              go_roundw
              case rel => exact hfin
              case measure => simp [intOf]
            · have n1 : K ≠ m := hKm
              have n2 : m ≠ K := fun h => hKm h.symm
              go_wp2
              go_region
              go_wp2
              go_roundw
              case rel => exact hfin
              case measure => simp [intOf]
          · have q3 := (hb3.block (w.heap.size + 1) (by rw [HT.out]; omega)).trans HQ.out
            have B3 : Below T wA w3 := HB.out.trans (hb3.mono (Nat.le_succ _))
            have c3 : w3.cell? ⟨w.heap.size + 1, 0, none⟩ = some (.int .u64 0) := (cellOf q3).trans rfl
            have f3 : w3.frozen? ⟨w.heap.size + 1, 0, none⟩ = false := frozenOf q3
            have k5 := fun v => heap_setCell_same w3 (w.heap.size + 1) 0 _ 24 v q3
            have c5 : ∀ v, (w3.setCell ⟨w.heap.size + 1, 0, none⟩ v).cell? ⟨w.heap.size + 1, 0, none⟩ = some v := fun v => (cellOf (W := w3.setCell ⟨w.heap.size + 1, 0, none⟩ v) (k5 v)).trans rfl
            have hw5 : ∀ v, Below w.heap.size w (w3.setCell ⟨w.heap.size + 1, 0, none⟩ v) := fun v => (nb.trans (B3.mono (by rw [HT.out]; omega))).setCell (p := ⟨w.heap.size + 1, 0, none⟩) (Nat.le_succ _) v
            have P5 : ShufV (n - 1) s (firstN n) none := HS.out none (by
              have e := HM.out
              subst e
              refine .inr ⟨?_, rfl⟩
              exact .inr ⟨by rw [show ((i : Int) + 2) = ((i + 1 : Nat) : Int) + 1 by omega]; exact hno, rfl⟩)
            clear HI HB HX HS HQ hb3 hno q3 k5 B3 nb
            go_wp2
            exact bodyPost_ret (v := .tuple #[.slice none 0 0, .agg #[.int .u64 0], .int .i64 9]) (by simp [results, Tryz.results13, go_sem, c5]) rfl ⟨_, rfl, ⟨none, P5, .inr ⟨rfl, rfl⟩⟩, hw5 _⟩
        · have q3 := (hb.block (w.heap.size + 1) (by rw [HT.out]; omega)).trans HK.out
          have P5 : ShufV (n - 1) s (firstN n) (some (s1, l)) := hS _ (by rw [show p - 1 = 0 by omega]; rfl)
          have HI := Lib.hid I
          have c1 : wr.drew.cell? ⟨X, 0, none⟩ = some (.int .u64 s1) := (cellOf (W := wr) hX).trans rfl
          have c2 : wr.drew.cell? ⟨w.heap.size + 1, 0, none⟩ = some (.int .u64 0) := (cellOf (W := wr) q3).trans rfl
          have f2 : wr.drew.frozen? ⟨w.heap.size + 1, 0, none⟩ = false := frozenOf (W := wr) q3
          have hTX' : w.heap.size + 1 ≠ X := by have := HT.out; omega
          have d2 : ∀ v, (wr.setCell ⟨w.heap.size + 1, 0, none⟩ v).drew.cell? ⟨X, 0, none⟩ = some (.int .u64 s1) := fun v =>
            (World.cell?_setCell_far wr ⟨w.heap.size + 1, 0, none⟩ ⟨X, 0, none⟩ v hTX').trans ((cellOf (W := wr) hX).trans rfl)
          have k5 := fun v => heap_setCell_same wr (w.heap.size + 1) 0 _ 24 v q3
          have c5 : ∀ v, (wr.setCell ⟨w.heap.size + 1, 0, none⟩ v).drew.cell? ⟨w.heap.size + 1, 0, none⟩ = some v := fun v => (cellOf (W := wr.setCell ⟨w.heap.size + 1, 0, none⟩ v) (k5 v)).trans rfl
          have hw5 : ∀ v, Below w.heap.size w (wr.setCell ⟨w.heap.size + 1, 0, none⟩ v).drew := fun v => ((nb.trans (hb.mono (by rw [HT.out]; omega))).setCell (p := ⟨w.heap.size + 1, 0, none⟩) (Nat.le_succ _) v).drew
          have I5 : ∀ v, IntsAt T l (wr.setCell ⟨w.heap.size + 1, 0, none⟩ v).drew := fun v => (setFar (w := wr) (a := ⟨w.heap.size + 1, 0, none⟩) (T := T) (by show T ≠ w.heap.size + 1; have := HT.out; omega) v).trans HI.out
          have hlt : ¬ ((p : Int) - 1 ≥ 1) := by omega
          clear I hb hX hS k5 q3 nb
          go_wp2_with fail
          go_region_held3 (fun w' => w'.cell? ⟨X, 0, none⟩ = some (.int .u64 s1)) ((with_reducible first | exact c1 | exact d2 _)) (fail)
          go_wp2
          exact bodyPost_ret (v := .tuple #[.slice (some ⟨T, 0, none⟩) n n, .agg #[.int .u64 s1], .int .i64 0]) (by simp [results, Tryz.results13, go_sem, c5]) rfl ⟨_, rfl, ⟨_, P5, .inl ⟨s1, l, T, rfl, hl, rfl, I5 _⟩⟩, hw5 _⟩
    · have j0 : (0 : Int) ≤ (j : Int) := by omega
      have j1 : (j : Int) < (n : Int) := by omega
      have fz := I.fz j
      have cl := I.cell (j := j) (by rw [partN_length]; omega)
      have hfin : ShOne wA T n (.int .i64 ((j : Int) + 1)) (wr.setCell ⟨T, j, none⟩ (.int .i64 j)) := ⟨j + 1, rfl, by omega, by rw [← partN_set]; exact I.set j j, hb.setCell (p := ⟨T, j, none⟩) (Nat.le_refl _) _⟩
      clear I hb I0 B0 h8 k1 k2
      go_wp2
      go_roundw
      case rel => exact hfin
      case measure => simp [intOf]; omega
end Go.Proofs.YtfeapgpjchjphaaGreat
