/-
  Numbers below a limit: below and Below.
-/
import Derived.Test.YtfeapgpjchjphaaGreatMCH
set_option linter.all false
namespace Go.Proofs.YtfeapgpjchjphaaGreat
open Go Go.RowKit Go.Big Go.Shelf
attribute [local instance] noAv
set_option maxHeartbeats 800000 in
set_option maxRecDepth 100000 in
theorem below1_c {w : World} {B : Nat} {x r : Int} (hB : w.heap[B]? = some (.cells #[.int .u64 r] 22)) :
    Calls Tryz.prog 55 #[.int .u64 x, .pointer (some ⟨B, 0, none⟩)] w (Gets (fun _ v => v = .bool (decide (x ≤ IntKind.u64.wrap (18446744073709551615 - r)))) w) := by
  have c1 : w.cell? ⟨B, 0, none⟩ = some (.int .u64 r) := (cellOf hB).trans rfl
  clear hB
  go_enter Tryz.func55, Tryz.ntmps55
  go_wp2
  go_ret
  exact ⟨_, rfl, rfl, Below.refl _ _⟩
def restV (n : Int) : Int := (IntKind.u64.wrap (- n)).tmod n
def okV (n x : Int) : Bool := decide (x ≤ IntKind.u64.wrap (18446744073709551615 - restV n))
/-- What below hands back: the remainder of the first number that is taken, or an error. -/
def BelowP (n0 X : Nat) (s n : Int) (w : World) (e : Ending) (w' : World) : Prop :=
  Below n0 w w' ∧ ((∃ i, i < 200 ∧ (∀ j, j < i → okV n (mix (stN j s)) = false) ∧ okV n (mix (stN i s)) = true ∧ e = .returned (.tuple #[.int .i64 (wrap64 ((mix (stN i s)).tmod n)), .int .i64 0]) ∧ w'.heap[X]? = some (.cells #[.int .u64 (stN (i + 1) s)] 88))
    ∨ ((∀ j, j < 200 → okV n (mix (stN j s)) = false) ∧ ∃ x, e = .returned (.tuple #[.int .i64 x, .int .i64 9])))
set_option maxHeartbeats 1600000 in
set_option maxRecDepth 100000 in
theorem below_c {w : World} {n0 X : Nat} {s n : Int} (hX : w.heap[X]? = some (.cells #[.int .u64 s] 88)) (hn0 : n0 ≤ X) (h1 : 1 ≤ n) (h2 : n < 9223372036854775808) :
    Calls Tryz.prog 24 #[.pointer (some ⟨X, 0, none⟩), .int .i64 n] w (BelowP n0 X s n w) := by
  have hw : IntKind.u64.wrap n = n := by rw [wrap_u]; exact Int.emod_eq_of_lt (by omega) (by omega)
  have hn : (n == 0) = false := by simp; omega
  have hB := (MapKept.heap_alloc w (.cells #[.int .u64 (restV n)] 22)).1
  have al := (Below.refl w.heap.size w).alloc (Nat.le_refl _) (.cells #[.int .u64 (restV n)] 22)
  have hX1 := keepH hX al
  have lX := ltH hX
  have al0 := al.mono (Nat.le_trans hn0 (Nat.le_of_lt lX))
  clear al
  have hr : (IntKind.u64.wrap (- n)).tmod n = restV n := rfl
  have Hr := Lib.hid hr
  clear hr
  go_enter Tryz.func24, Tryz.ntmps24
  go_wp2_with fail
  rw [Hr.out]
  refine (draw_c (n0 := n0) (okV n) hX1 hB (by omega) hn0 (fun x U hU => below1_c hU)).mono ?_
  rintro e w2 ⟨hb, ⟨i, hi, hno, hok, rfl, hX2⟩ | ⟨hno, rfl⟩⟩
  · have HN := Lib.hid hno
    have HO := Lib.hid hok
    have HB := Lib.hid (al0.trans hb)
    have HX := Lib.hid hX2
    clear hno hok hb hX2 hX1 hB al0 hX Hr
    generalize hm : mix (stN i s) = m at *
    go_wp2
    go_ret2
    subst hm
    exact ⟨HB.out, .inl ⟨i, hi, HN.out, HO.out, rfl, HX.out⟩⟩
  · have HN := Lib.hid hno
    have HB := Lib.hid (al0.trans hb)
    clear hno hb hX1 hB al0 hX Hr
    go_wp2
    go_ret2
    exact ⟨HB.out, .inr ⟨HN.out, _, rfl⟩⟩
/-- What Below hands back for a limit of at least 1. -/
def BelowV (s n : Int) (r : Value) : Prop :=
  (∃ i, i < 200 ∧ (∀ j, j < i → okV n (mix (stN j s)) = false) ∧ okV n (mix (stN i s)) = true ∧ r = .tuple #[.int .i64 (wrap64 ((mix (stN i s)).tmod n)), .agg #[.int .u64 (stN (i + 1) s)], .int .i64 0])
    ∨ ((∀ j, j < 200 → okV n (mix (stN j s)) = false) ∧ r = .tuple #[.int .i64 0, .agg #[.int .u64 0], .int .i64 9])
set_option maxHeartbeats 1600000 in
set_option maxRecDepth 100000 in
theorem Below_arg {w : World} {s n : Int} (h1 : n < 1) : Calls Tryz.prog 6 #[.agg #[.int .u64 s], .int .i64 n] w (Gets (fun _ r => r = .tuple #[.int .i64 0, .agg #[.int .u64 0], .int .i64 2]) w) := by
  have h1' : decide (n < 1) = true := by simpa using h1
  have nb := fun o o' => next_below (w := w) (o := o) (o' := o')
  have k := fun o o' => (heap2 w o o').2
  have c := fun o v => (cellOf (j := 0) (k o (.cells #[v] 24))).trans (show (#[v] : Array Value)[0]? = some v from rfl)
  clear k
  go_enter Tryz.func6, Tryz.ntmps6
  go_wp2
  exact bodyPost_ret (v := .tuple #[.int .i64 0, .agg #[.int .u64 0], .int .i64 2]) (by simp [results, Tryz.results6, go_sem, c]) rfl ⟨_, rfl, rfl, nb _ _⟩
set_option maxHeartbeats 1600000 in
set_option maxRecDepth 100000 in
theorem Below_c {w : World} {s n : Int} (h1 : 1 ≤ n) (h2 : n < 9223372036854775808) : Calls Tryz.prog 6 #[.agg #[.int .u64 s], .int .i64 n] w (Gets (fun _ r => BelowV s n r) w) := by
  have h1' : ¬ n < 1 := by omega
  have k4 := fun o o' => (heap2 w o o').2
  have nb := fun o o' => next_below (w := w) (o := o) (o' := o')
  have sz : ∀ o o', ((w.alloc o).alloc o').heap.size = w.heap.size + 1 + 1 := fun o o' => by simp
  go_enter Tryz.func6, Tryz.ntmps6
  go_wp2_with fail
  refine (from_c s).mono ?_
  rintro e w2 ⟨r, rfl, ⟨X, rfl, hX, hle⟩, hb⟩
  have k4 := keepH (k4 _ _) hb
  have hw := (nb _ _).trans (hb.mono (by rw [sz]; omega))
  rw [sz] at hle
  clear hb nb sz
  go_wp2_with fail
  refine (below_c (n0 := w.heap.size + 1 + 1) hX hle h1 h2).mono ?_
  rintro e w3 ⟨hb, ⟨i, hi, hno, hok, rfl, hX3⟩ | ⟨hno, x, rfl⟩⟩
  · have k5 := (hb.block (w.heap.size + 1) (by omega)).trans k4
    have hw3 := hw.trans (hb.mono (by omega))
    have hl3 := ltH k5
    have HN := Lib.hid hno
    have HO := Lib.hid hok
    clear hno hok
    clear hb hw k4 hX
    go_wp2_with fail
    refine (state_ok hX3).mono ?_
    rintro e w4 ⟨r, rfl, rfl, hb4⟩
    have k6 := keepH k5 hb4
    have hw4 := hw3.trans (hb4.mono (by omega))
    have c5 : w4.cell? ⟨w.heap.size + 1, 0, none⟩ = some (.int .u64 0) := (cellOf k6).trans rfl
    have f5 : w4.frozen? ⟨w.heap.size + 1, 0, none⟩ = false := frozenOf k6
    have k7 := fun v => heap_setCell_same w4 (w.heap.size + 1) 0 _ 24 v k6
    have c7 : ∀ v, (w4.setCell ⟨w.heap.size + 1, 0, none⟩ v).cell? ⟨w.heap.size + 1, 0, none⟩ = some v := fun v => (cellOf (k7 v)).trans rfl
    have hw5 : ∀ v, Below w.heap.size w (w4.setCell ⟨w.heap.size + 1, 0, none⟩ v) := fun v => hw4.setCell (p := ⟨w.heap.size + 1, 0, none⟩) (Nat.le_succ _) v
    clear k5 k6 k7 hw3 hw4 hb4
    go_wp2
    exact bodyPost_ret (v := .tuple #[.int .i64 (wrap64 ((mix (stN i s)).tmod n)), .agg #[.int .u64 (stN (i + 1) s)], .int .i64 0]) (by simp [results, Tryz.results6, go_sem, c7]) rfl ⟨_, rfl, .inl ⟨i, hi, HN.out, HO.out, rfl⟩, hw5 _⟩
  · have k5 := (hb.block (w.heap.size + 1) (by omega)).trans k4
    have hw3 := hw.trans (hb.mono (by omega))
    have hl3 := ltH k5
    have HN := Lib.hid hno
    clear hno
    clear hb hw k4 hX
    go_wp2_with fail
    refine (state_no (by decide)).mono ?_
    rintro e w4 ⟨r, rfl, rfl, hb4⟩
    have k6 := keepH k5 hb4
    have hw4 := hw3.trans (hb4.mono (by omega))
    have c5 : w4.cell? ⟨w.heap.size + 1, 0, none⟩ = some (.int .u64 0) := (cellOf k6).trans rfl
    have f5 : w4.frozen? ⟨w.heap.size + 1, 0, none⟩ = false := frozenOf k6
    have k7 := fun v => heap_setCell_same w4 (w.heap.size + 1) 0 _ 24 v k6
    have c7 : ∀ v, (w4.setCell ⟨w.heap.size + 1, 0, none⟩ v).cell? ⟨w.heap.size + 1, 0, none⟩ = some v := fun v => (cellOf (k7 v)).trans rfl
    have hw5 : ∀ v, Below w.heap.size w (w4.setCell ⟨w.heap.size + 1, 0, none⟩ v) := fun v => hw4.setCell (p := ⟨w.heap.size + 1, 0, none⟩) (Nat.le_succ _) v
    clear k5 k6 k7 hw3 hw4 hb4
    go_wp2
    exact bodyPost_ret (v := .tuple #[.int .i64 0, .agg #[.int .u64 0], .int .i64 9]) (by simp [results, Tryz.results6, go_sem, c7]) rfl ⟨_, rfl, .inr ⟨HN.out, rfl⟩, hw5 _⟩
end Go.Proofs.YtfeapgpjchjphaaGreat
