/-
  The reference's Shuffle.
-/
import Derived.Test.YtfeapgpjchjphaaGreatMEC
import Derived.BigRegion
set_option linter.all false
namespace Go.Proofs.YtfeapgpjchjphaaGreat
open Go Go.Rx Go.RowKit Go.Big
attribute [local instance] noAv
/-- Block B begins with the integers l. -/
def IntsPre (B : Nat) (l : List Int) (w : World) : Prop := ∃ tl : List Value, w.heap[B]? = some (.cells (l.map (Value.int .i64) ++ tl).toArray 3)
theorem IntsPre.lt {B : Nat} {l : List Int} {w : World} (h : IntsPre B l w) : B < w.heap.size := lt_of_heap h.choose_spec
theorem IntsPre.cell {B : Nat} {l : List Int} {w : World} (h : IntsPre B l w) {j : Nat} (hj : j < l.length) : w.cell? ⟨B, j, none⟩ = some (.int .i64 (l.getD j 0)) := by
  obtain ⟨tl, h⟩ := h
  rw [cellOf h]
  simp [List.getD, hj, List.getElem?_append_left]
theorem IntsPre.fz {B : Nat} {l : List Int} {w : World} (h : IntsPre B l w) (j : Nat) : w.frozen? ⟨B, j, none⟩ = false := frozenOf h.choose_spec
theorem IntsPre.set {B : Nat} {l : List Int} {w : World} (h : IntsPre B l w) {j : Nat} (hj : j < l.length) (d : Int) : IntsPre B (l.set j d) (w.setCell ⟨B, j, none⟩ (.int .i64 d)) := by
  obtain ⟨tl, h⟩ := h
  refine ⟨tl, ?_⟩
  rw [heap_setCell_same w B j _ 3 _ h]
  simp [List.map_set, List.set_append_left, hj]
theorem IntsPre.below {B n : Nat} {l : List Int} {w w' : World} (h : IntsPre B l w) (hb : Below n w w') (hB : B < n) : IntsPre B l w' := by
  obtain ⟨tl, h⟩ := h
  exact ⟨tl, (hb.block B hB).trans h⟩
theorem IntsPre.far {B : Nat} {l : List Int} {w : World} (h : IntsPre B l w) {a : Addr} (hB : B ≠ a.block) (v : Value) : IntsPre B l (w.setCell a v) := by
  obtain ⟨tl, h⟩ := h
  exact ⟨tl, (setFar hB v).trans h⟩
theorem IntsPre.row {B c : Nat} {l : List Int} {w : World} (h : IntsPre B l w) (hc : l.length ≤ c) : RowK .i64 w (.slice (some ⟨B, 0, none⟩) l.length c) l :=
  .inr ⟨B, 0, c, rfl, hc, h.lt, fun j hj => by rw [Nat.zero_add]; exact h.cell hj, fun h => h, fun _ h => h.elim⟩
theorem firstN_succ (k : Nat) : firstN (k + 1) = firstN k ++ [(k : Int)] := by
  unfold firstN
  rw [List.range_succ, List.map_append]
  rfl
/-- The list so far. -/
def RShOne (wA : World) (n : Nat) (out a : Value) (wr : World) : Prop :=
  ∃ k : Nat, a = .int .i64 k ∧ k ≤ n ∧ wr.ownsRow wA.heap.size 3 1 out k ((firstN k).map (Value.int .i64)) ∧ Below wA.heap.size wA wr
/-- The exchanges so far. -/
def RShTwo (w : World) (g n : Nat) (s0 : Int) (a : Value) (wr : World) : Prop :=
  ∃ (p : Nat) (s : Int) (l : List Int), a = .int .i64 ((p : Int) - 1) ∧ p ≤ n ∧ (p = 0 → n = 0) ∧ l.length = n ∧ IntsPre g l wr ∧ Below w.heap.size w wr ∧ wr.heap[w.heap.size]? = some (.cells #[.int .u64 s] 24) ∧ wr.heap[w.heap.size + 1]? = some (.cells #[.int .u64 0] 24) ∧ (∀ o, ShufV (p - 1) s l o → ShufV (n - 1) s0 (firstN n) o)
/-- What the reference's Shuffle hands back. -/
def RShufP (n : Nat) (s : Int) (w' : World) (r : Value) : Prop :=
  ∃ o, ShufV (n - 1) s (firstN n) o ∧ ((∃ (s' : Int) (l : List Int) (v : Value), o = some (s', l) ∧ l.length = n ∧ r = .tuple #[v, .agg #[.int .u64 s'], .int .i64 0] ∧ RowK .i64 w' v l)
    ∨ (o = none ∧ r = .tuple #[.slice none 0 0, .agg #[.int .u64 0], .int .i64 9]))
set_option maxHeartbeats 3200000 in
set_option maxRecDepth 100000 in
theorem refShuffle_c {w : World} {s : Int} {n : Nat} (hn : n ≤ 400) : Calls Tryz.prog 14 #[.agg #[.int .u64 s], .int .i64 (n : Int)] w (Gets (RShufP n s) w) := by
  obtain ⟨i0, hi, hz0, hz1, hz2⟩ := info_parts Tryz.info3
  have n0 : ¬ (n : Int) < 0 := by omega
  have n1 : ¬ (n : Int) > 400 := by omega
  have nb := fun o o' => next_below (w := w) (o := o) (o' := o')
  have sz2 : ∀ o o', ((w.alloc o).alloc o').heap.size = w.heap.size + 1 + 1 := fun o o' => by simp
  have k2 := fun o o' => (heap2 w o o').2
  have k1 := fun o o' => (heap2 w o o').1
  go_enter Tryz.func14, Tryz.ntmps14
  go_wp2_with fail
  have k1 := k1 (.cells #[.int .u64 s] 24) (.cells #[.int .u64 0] 24)
  have k2 := k2 (.cells #[.int .u64 s] 24) (.cells #[.int .u64 0] 24)
  have nb := nb (.cells #[.int .u64 s] 24) (.cells #[.int .u64 0] 24)
  have sz2 := sz2 (.cells #[.int .u64 s] 24) (.cells #[.int .u64 0] 24)
  generalize hwA : (w.alloc (.cells #[.int .u64 s] 24)).alloc (.cells #[.int .u64 0] 24) = wA at *
  have HZ := Lib.hid sz2
  clear sz2 n0 n1
  go_loopw [7, 8] (RShOne wA n) (fun _ i _ => n - (intOf i).toNat)
  case atStart => exact ⟨0, rfl, Nat.zero_le _, World.ownsRow_nil _ _ _ _, Below.refl _ _⟩
  case round =>
    obtain ⟨k, rfl, hk, own, bel⟩ := hrel
    have hsz := bel.size
    by_cases h8 : k < n
    · have j0 : (0 : Int) ≤ (k : Int) := by omega
      have j1 : (k : Int) < (n : Int) := by omega
      have N : ∀ v' w3, w3.ownsRow wA.heap.size 3 1 v' (k + 1) ((firstN k).map (Value.int .i64) ++ [.int .i64 k]) → Below wA.heap.size wA w3 → RShOne wA n v' (.int .i64 ((k : Int) + 1)) w3 := fun v' w3 ho hb3 =>
        ⟨k + 1, rfl, by omega, by rw [firstN_succ]; simpa using ho, hb3⟩
      clear k1 k2
      go_wp2_with (at_builtin; refine wpList_append_own _ rfl _ _ 45 rfl wA.heap.size 3 i0 (.int .i64 0) 1 8 Tryz.underlying45 hi hz0 hz1 hz2 rfl (by decide) _ _ _ rfl (own.alloc _) ⟨wr.heap.size, 0, none⟩ 1 1 [.int .i64 (k : Int)] rfl rfl (cell1 _ _ _) one1 (by unfold maxLen; omega) (by omega) (by simp; omega) ?_; intro v' w3 hown' hgrow3 hnil3)
      go_roundw
      case rel => exact N _ _ hown' (below_append bel own hgrow3)
      case measure => simp [intOf]; omega
    · obtain rfl : n = k := by omega
      have q1 := (bel.block w.heap.size (by rw [HZ.out]; omega)).trans k1
      have q2 := (bel.block (w.heap.size + 1) (by rw [HZ.out]; omega)).trans k2
      have belw : Below w.heap.size w wr := nb.trans (bel.mono (by rw [HZ.out]; omega))
      clear k1 k2 nb hwA hk h8
      obtain ⟨h0, hown⟩ := own
      rcases hown with ⟨rfl, h2⟩ | ⟨g, cap, cur, rfl, hbg, hg, hle, -, -, ht⟩
      · obtain rfl : n = 0 := h2
        have P5 : ShufV (0 - 1) s (firstN 0) (some (s, [])) := rfl
        have c1 : wr.cell? ⟨w.heap.size, 0, none⟩ = some (.int .u64 s) := (cellOf q1).trans rfl
        have c2 : wr.cell? ⟨w.heap.size + 1, 0, none⟩ = some (.int .u64 0) := (cellOf q2).trans rfl
        have f2 : wr.frozen? ⟨w.heap.size + 1, 0, none⟩ = false := frozenOf q2
        have k5 := fun v => heap_setCell_same wr (w.heap.size + 1) 0 _ 24 v q2
        have c5 : ∀ v, (wr.setCell ⟨w.heap.size + 1, 0, none⟩ v).drew.cell? ⟨w.heap.size + 1, 0, none⟩ = some v := fun v => (cellOf (W := wr.setCell ⟨w.heap.size + 1, 0, none⟩ v) (k5 v)).trans rfl
        have hw5 : ∀ v, Below w.heap.size w (wr.setCell ⟨w.heap.size + 1, 0, none⟩ v).drew := fun v => (belw.setCell (p := ⟨w.heap.size + 1, 0, none⟩) (Nat.le_succ _) v).drew
        clear k5 q1 q2 belw bel h0 HZ
        go_wp2_with fail
        refine wp_loop_rounds 1 ?_
        rw [rounds_succ]
        go_wp2_with fail
        go_region
        go_wp2
        exact bodyPost_ret (v := .tuple #[.slice none 0 0, .agg #[.int .u64 s], .int .i64 0]) (by simp [results, Tryz.results14, go_sem, c5]) rfl ⟨_, rfl, ⟨_, P5, .inl ⟨s, [], _, rfl, rfl, rfl, RowK.nil (fun _ h => h.elim)⟩⟩, hw5 _⟩
      · have I0 : IntsPre g (firstN n) wr := ⟨cur.toList.drop n, by rw [hg, ← ht, Nat.mul_one, List.take_append_drop]⟩
        have hgw : w.heap.size + 1 < g := by have := HZ.out; omega
        clear h0 hg ht hbg bel HZ
        go_wp2_with fail
        go_loopw [9] (RShTwo w g n s) (fun i _ => (intOf i + 1).toNat)
        case atStart => exact ⟨n, s, firstN n, rfl, Nat.le_refl _, fun h => h, firstN_length n, I0, belw, q1, q2, fun o h => h⟩
        case round =>
          clear I0 belw q1 q2
          obtain ⟨p, s1, l, rfl, hp, hp0, hl, I, hb, q1, q2, hS⟩ := hrel
          by_cases h2 : 2 ≤ p
          · obtain ⟨i, rfl⟩ : ∃ i, p = i + 2 := ⟨p - 2, by omega⟩
            have e1 : ((i + 2 : Nat) : Int) - 1 = ((i + 1 : Nat) : Int) := by omega
            rw [e1]
            clear e1
            obtain ⟨m, hm⟩ : ∃ m : Nat, m = i + 1 := ⟨_, rfl⟩
            rw [← hm]
            have m1 : (1 : Int) ≤ (m : Int) := by omega
            have m2 : (m : Int) + 1 ≤ 400 := by omega
            have HM := Lib.hid hm
            have HS := Lib.hid hS
            have HI := Lib.hid I
            have HB := Lib.hid hb
            have HQ1 := Lib.hid q1
            have HQ2 := Lib.hid q2
            have c1 : wr.cell? ⟨w.heap.size, 0, none⟩ = some (.int .u64 s1) := (cellOf q1).trans rfl
            clear hm hS I hb q1 q2
            go_wp2_with fail
            refine (refBelow_c (s := s1) (n := (m : Int) + 1) (by omega) (by omega)).mono ?_
            rintro e w8 ⟨r8, rfl, hV, hb8⟩
            have lg := HI.out.lt
            have I8 := HI.out.below hb8 lg
            have B8 : Below w.heap.size w w8 := HB.out.trans (hb8.mono HB.out.size)
            have q1 := (hb8.block w.heap.size (lt_of_heap HQ1.out)).trans HQ1.out
            have q2 := (hb8.block (w.heap.size + 1) (lt_of_heap HQ2.out)).trans HQ2.out
            have lg8 := I8.lt
            clear HI HB HQ1 HQ2 hb8 lg c1
            have hV' := hV
            rcases hV with ⟨k, hk, hno, hok, rfl⟩ | ⟨hno, rfl⟩
            · obtain ⟨K, hK, hKn⟩ := okn_range (s := s1) (i := k) (n := (m : Int) + 1) (by omega) m2
              rw [hK] at hV' ⊢
              generalize stN (k + 1) s1 = s3 at *
              have lm : m < l.length := by have := HM.out; omega
              have lk : K < l.length := by have := HM.out; omega
              have k12 := (MapKept.heap_alloc w8 (.cells #[.int .u64 s3] 24)).1
              have bal : Below w8.heap.size w8 (w8.alloc (.cells #[.int .u64 s3] 24)) := (Below.refl _ _).alloc (Nat.le_refl _) _
              have g1 := (bal.block w.heap.size (lt_of_heap q1)).trans q1
              have g2 := (bal.block (w.heap.size + 1) (lt_of_heap q2)).trans q2
              have I9 := (I8.below bal lg8).far (a := ⟨w.heap.size, 0, none⟩) (by show g ≠ w.heap.size; omega) (.int .u64 s3)
              have j1 := heap_setCell_same _ w.heap.size 0 _ 24 (.int .u64 s3) g1
              have j2 := (setFar (w := w8.alloc (.cells #[.int .u64 s3] 24)) (a := ⟨w.heap.size, 0, none⟩) (T := w.heap.size + 1) (by show w.heap.size + 1 ≠ w.heap.size; omega) (.int .u64 s3)).trans g2
              have l8 := lt_of_heap q2
              have B9 : Below w.heap.size w ((w8.alloc (.cells #[.int .u64 s3] 24)).setCell ⟨w.heap.size, 0, none⟩ (.int .u64 s3)) := (B8.trans (bal.mono (by omega))).setCell (p := ⟨w.heap.size, 0, none⟩) (Nat.le_refl _) _
              have c1 : (w8.alloc (.cells #[.int .u64 s3] 24)).cell? ⟨w.heap.size, 0, none⟩ = some (.int .u64 s1) := (cellOf g1).trans rfl
              have f1 : (w8.alloc (.cells #[.int .u64 s3] 24)).frozen? ⟨w.heap.size, 0, none⟩ = false := frozenOf g1
              clear g1 g2 bal B8 I8 q1 q2 hno hok hk hK
              go_wp2_with fail
              generalize (w8.alloc (.cells #[.int .u64 s3] 24)).setCell ⟨w.heap.size, 0, none⟩ (.int .u64 s3) = w9 at *
              have cm : w9.cell? ⟨g, m, none⟩ = _ := I9.cell lm
              have ck : w9.cell? ⟨g, K, none⟩ = _ := I9.cell lk
              have fm : w9.frozen? ⟨g, m, none⟩ = false := I9.fz m
              have fk : w9.frozen? ⟨g, K, none⟩ = false := I9.fz K
              have hfin : RShTwo w g n s (.int .i64 ((m : Int) - 1)) ((w9.setCell ⟨g, m, none⟩ (.int .i64 (l.getD K 0))).setCell ⟨g, K, none⟩ (.int .i64 (l.getD m 0))).drew := by
                refine ⟨m, s3, swapL l m K, rfl, by have := HM.out; omega, by have := HM.out; omega, by rw [swapL_length, hl], (I9.set lm _).set (by simpa using lk) _, ((B9.setCell (p := ⟨g, m, none⟩) (by show w.heap.size ≤ g; omega) _).setCell (p := ⟨g, K, none⟩) (by show w.heap.size ≤ g; omega) _).drew, ?_, ?_, fun o ho => HS.out o ?_⟩
                · show ((w9.setCell ⟨g, m, none⟩ (.int .i64 (l.getD K 0))).setCell ⟨g, K, none⟩ (.int .i64 (l.getD m 0))).heap[w.heap.size]? = _
                  rw [setFar (by show w.heap.size ≠ g; omega), setFar (by show w.heap.size ≠ g; omega)]; exact j1
                · show ((w9.setCell ⟨g, m, none⟩ (.int .i64 (l.getD K 0))).setCell ⟨g, K, none⟩ (.int .i64 (l.getD m 0))).heap[w.heap.size + 1]? = _
                  rw [setFar (by show w.heap.size + 1 ≠ g; omega), setFar (by show w.heap.size + 1 ≠ g; omega)]; exact j2
                · have e := HM.out
                  subst e
                  refine .inl ⟨K, s3, by omega, ?_, ho⟩
                  rw [show ((i : Int) + 2) = ((i + 1 : Nat) : Int) + 1 by omega]
                  exact hV'
              have k0 : (0 : Int) ≤ (K : Int) := by omega
              have k1 : (K : Int) < (n : Int) := by have := HM.out; omega
              have m0 : (0 : Int) ≤ (m : Int) := by omega
              have m3 : (m : Int) < (n : Int) := by have := HM.out; omega
              generalize l.getD K 0 = y1 at *
              generalize l.getD m 0 = y2 at *
              clear I9 B9 hV' j1 j2 HS lm lk c1 f1 k12
              by_cases hKm : K = m
              · subst hKm
                have e : y2 = y1 := by have := cm.symm.trans ck; simpa using this
                subst e
                clear cm fm
                go_wp2
                go_region
                go_wp2
                go_roundw
                case rel => exact hfin
                case measure => simp [intOf]
              · have n1 : K ≠ m := hKm
                have n2 : m ≠ K := fun h => hKm h.symm
                go_wp2
                go_region
                go_wp2
                go_roundw
                case rel => exact hfin
                case measure => simp [intOf]
            · have bal : Below w8.heap.size w8 (w8.alloc (.cells #[.int .u64 0] 24)) := (Below.refl _ _).alloc (Nat.le_refl _) _
              have g2 := (bal.block (w.heap.size + 1) (lt_of_heap q2)).trans q2
              have l8 := lt_of_heap q2
              have B9 : Below w.heap.size w (w8.alloc (.cells #[.int .u64 0] 24)) := B8.trans (bal.mono (by omega))
              have P5 : ShufV (n - 1) s (firstN n) none := HS.out none (by
                have e := HM.out
                subst e
                exact .inr ⟨by rw [show ((i : Int) + 2) = ((i + 1 : Nat) : Int) + 1 by omega]; exact hV', rfl⟩)
              have k5 := heap_setCell_same w8 (w.heap.size + 1) 0 _ 24 (.int .u64 0) q2
              have bal2 : ∀ o, Below (w8.setCell ⟨w.heap.size + 1, 0, none⟩ (.int .u64 0)).heap.size (w8.setCell ⟨w.heap.size + 1, 0, none⟩ (.int .u64 0)) ((w8.setCell ⟨w.heap.size + 1, 0, none⟩ (.int .u64 0)).alloc o) := fun o => (Below.refl _ _).alloc (Nat.le_refl _) o
              have c5 : ∀ o, ((w8.setCell ⟨w.heap.size + 1, 0, none⟩ (.int .u64 0)).alloc o).cell? ⟨w.heap.size + 1, 0, none⟩ = some (.int .u64 0) := fun o => (cellOf (((bal2 o).block _ (lt_of_heap k5)).trans k5)).trans rfl
              have hw5 : ∀ o, Below w.heap.size w ((w8.setCell ⟨w.heap.size + 1, 0, none⟩ (.int .u64 0)).alloc o) := fun o => (B8.setCell (p := ⟨w.heap.size + 1, 0, none⟩) (Nat.le_succ _) _).alloc (by simp; omega) o
              have c2 : (w8.alloc (.cells #[.int .u64 0] 24)).cell? ⟨w.heap.size + 1, 0, none⟩ = some (.int .u64 0) := (cellOf g2).trans rfl
              have f2 : (w8.alloc (.cells #[.int .u64 0] 24)).frozen? ⟨w.heap.size + 1, 0, none⟩ = false := frozenOf g2
              clear bal bal2 B8 I8 q1 q2 hno hV' HS lg8 k5 g2 B9
              go_wp2
              exact bodyPost_ret (v := .tuple #[.slice none 0 0, .agg #[.int .u64 0], .int .i64 9]) (by simp [results, Tryz.results14, go_sem, c5]) rfl ⟨_, rfl, ⟨none, P5, .inr ⟨rfl, rfl⟩⟩, hw5 _⟩
          · have P5 : ShufV (n - 1) s (firstN n) (some (s1, l)) := hS _ (by rw [show p - 1 = 0 by omega]; rfl)
            have c1 : wr.cell? ⟨w.heap.size, 0, none⟩ = some (.int .u64 s1) := (cellOf q1).trans rfl
            have c2 : wr.cell? ⟨w.heap.size + 1, 0, none⟩ = some (.int .u64 0) := (cellOf q2).trans rfl
            have f2 : wr.frozen? ⟨w.heap.size + 1, 0, none⟩ = false := frozenOf q2
            have k5 := fun v => heap_setCell_same wr (w.heap.size + 1) 0 _ 24 v q2
            have c5 : ∀ v, (wr.setCell ⟨w.heap.size + 1, 0, none⟩ v).drew.cell? ⟨w.heap.size + 1, 0, none⟩ = some v := fun v => (cellOf (W := wr.setCell ⟨w.heap.size + 1, 0, none⟩ v) (k5 v)).trans rfl
            have hw5 : ∀ v, Below w.heap.size w (wr.setCell ⟨w.heap.size + 1, 0, none⟩ v).drew := fun v => (hb.setCell (p := ⟨w.heap.size + 1, 0, none⟩) (Nat.le_succ _) v).drew
            have R5 : ∀ v, RowK .i64 (wr.setCell ⟨w.heap.size + 1, 0, none⟩ v).drew (.slice (some ⟨g, 0, none⟩) n cap) l := fun v => by
              have := IntsPre.row (c := cap) (I.far (a := ⟨w.heap.size + 1, 0, none⟩) (by show g ≠ w.heap.size + 1; omega) v) (by omega)
              rw [hl] at this
              exact this
            have hlt : ¬ ((p : Int) - 1 ≥ 1) := by omega
            clear I hb hS k5 q1 q2
            go_wp2_with fail
            go_region
            go_wp2
            exact bodyPost_ret (v := .tuple #[.slice (some ⟨g, 0, none⟩) n cap, .agg #[.int .u64 s1], .int .i64 0]) (by simp [results, Tryz.results14, go_sem, c5]) rfl ⟨_, rfl, ⟨_, P5, .inl ⟨s1, l, _, rfl, hl, rfl, R5 _⟩⟩, hw5 _⟩
end Go.Proofs.YtfeapgpjchjphaaGreat
