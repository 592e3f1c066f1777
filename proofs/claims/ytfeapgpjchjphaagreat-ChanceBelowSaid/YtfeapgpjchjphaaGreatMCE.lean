/-
  What works() asks of a call: draws and fails, and what they hand back.
-/
import Derived.Test.YtfeapgpjchjphaaGreatMCC
set_option linter.all false
namespace Go.Proofs.YtfeapgpjchjphaaGreat
open Go Go.RowKit Go.Big
attribute [local instance] noAv
set_option maxHeartbeats 800000 in
set_option maxRecDepth 100000 in
theorem draws_c {w : World} (n : Int) (b : Bool) : Calls Tryz.prog 20 #[.int .i64 n, .bool b] w (Gets (fun w' r => ∃ A B, r = .func (.func 47) #[] #[.pointer (some ⟨A, 0, none⟩), .pointer (some ⟨B, 0, none⟩)] ∧ w'.heap[A]? = some (.cells #[.int .i64 n] 3) ∧ w'.heap[B]? = some (.cells #[.bool b] 4)) w) := by
  go_enter Tryz.func20, Tryz.ntmps20
  go_wp2
  go_ret
  exact ⟨_, rfl, ⟨_, _, rfl, (heap2 w _ _).1, (heap2 w _ _).2⟩, next_below⟩
set_option maxHeartbeats 800000 in
set_option maxRecDepth 100000 in
theorem fails_c {w : World} (e : Int) : Calls Tryz.prog 21 #[.int .i64 e] w (Gets (fun w' r => ∃ A, r = .func (.func 48) #[] #[.pointer (some ⟨A, 0, none⟩)] ∧ w'.heap[A]? = some (.cells #[.int .i64 e] 34)) w) := by
  go_enter Tryz.func21, Tryz.ntmps21
  go_wp2
  go_ret
  exact ⟨_, rfl, ⟨_, rfl, (MapKept.heap_alloc w _).1⟩, (Below.refl _ w).alloc (Nat.le_refl _) _⟩
set_option maxHeartbeats 1600000 in
set_option maxRecDepth 100000 in
theorem draws1_c {w : World} {A B : Nat} {n s : Int} (kA : w.heap[A]? = some (.cells #[.int .i64 n] 3)) (kB : w.heap[B]? = some (.cells #[.bool true] 4)) (hs : s ≠ 0) :
    Calls Tryz.prog 47 #[.int .i64 n, .agg #[.int .u64 s], .int .i64 0, .pointer (some ⟨A, 0, none⟩), .pointer (some ⟨B, 0, none⟩)] w (Gets (fun _ r => r = .bool true) w) := by
  have hs' : (s == 0) = false := by simpa using hs
  have al := (Below.refl w.heap.size w).alloc (Nat.le_refl _) (.cells #[.int .u64 s] 24)
  have kA := keepH kA al
  have kB := keepH kB al
  have k5 := (MapKept.heap_alloc w (.cells #[.int .u64 s] 24)).1
  go_enter Tryz.func47, Tryz.ntmps47
  go_wp2
  have hfin : ∀ U, Below (w.alloc (.cells #[.int .u64 s] 24)).heap.size (w.alloc (.cells #[.int .u64 s] 24)) U → Below w.heap.size w U := fun U hU => al.trans (hU.mono (by simp))
  generalize w.alloc (.cells #[.int .u64 s] 24) = w1 at *
  generalize hX : w.heap.size = X at *
  have d1 : w1.drew.cell? ⟨A, 0, none⟩ = some (.int .i64 n) := (cellOf (W := w1) kA).trans rfl
  have d2 : w1.drew.cell? ⟨B, 0, none⟩ = some (.bool true) := (cellOf (W := w1) kB).trans rfl
  have d3 : w1.drew.cell? ⟨X, 0, none⟩ = some (.int .u64 s) := (cellOf (W := w1) k5).trans rfl
  have hB := hfin w1.drew (Below.refl _ _).drew
  clear kA kB k5 hfin al
  go_region_held3 (fun w' => w'.cell? ⟨A, 0, none⟩ = some (.int .i64 n) ∧ w'.cell? ⟨B, 0, none⟩ = some (.bool true) ∧ w'.cell? ⟨X, 0, none⟩ = some (.int .u64 s)) ((with_reducible exact ⟨d1, d2, d3⟩)) (fail)
  go_wp2
  go_ret
  exact ⟨_, rfl, rfl, by rw [hX]; exact hB⟩
set_option maxHeartbeats 1600000 in
set_option maxRecDepth 100000 in
theorem fails1_c {w : World} {A : Nat} {e : Int} (kA : w.heap[A]? = some (.cells #[.int .i64 e] 34)) :
    Calls Tryz.prog 48 #[.int .i64 0, .agg #[.int .u64 0], .int .i64 e, .pointer (some ⟨A, 0, none⟩)] w (Gets (fun _ r => r = .bool true) w) := by
  have al := (Below.refl w.heap.size w).alloc (Nat.le_refl _) (.cells #[.int .u64 0] 24)
  have kA := keepH kA al
  have d1 : (w.alloc (.cells #[.int .u64 0] 24)).cell? ⟨A, 0, none⟩ = some (.int .i64 e) := (cellOf kA).trans rfl
  clear kA
  go_enter Tryz.func48, Tryz.ntmps48
  go_wp2
  go_ret
  exact ⟨_, rfl, rfl, al⟩
set_option maxHeartbeats 1600000 in
set_option maxRecDepth 100000 in
theorem state_ok {w : World} {B : Nat} {x s : Int} (k : w.heap[B]? = some (.cells #[.int .u64 s] 88)) :
    Calls Tryz.prog 25 #[.pointer (some ⟨B, 0, none⟩), .int .i64 x, .int .i64 0] w (Gets (fun _ r => r = .tuple #[.int .i64 x, .agg #[.int .u64 s], .int .i64 0]) w) := by
  have al := (Below.refl w.heap.size w).alloc (Nat.le_refl _) (.cells #[.int .u64 0] 24)
  have lB := ltH k
  have k := keepH k al
  have k5 := (MapKept.heap_alloc w (.cells #[.int .u64 0] 24)).1
  go_enter Tryz.func25, Tryz.ntmps25
  go_wp2
  generalize w.alloc (.cells #[.int .u64 0] 24) = w1 at *
  generalize hX : w.heap.size = X at *
  have c1 : w1.cell? ⟨B, 0, none⟩ = some (.int .u64 s) := (cellOf k).trans rfl
  have c2 : w1.drew.cell? ⟨X, 0, none⟩ = some (.int .u64 0) := (cellOf (W := w1) k5).trans rfl
  have f2 : w1.drew.frozen? ⟨X, 0, none⟩ = false := frozenOf (W := w1) k5
  have d1 : w1.drew.cell? ⟨B, 0, none⟩ = some (.int .u64 s) := c1
  have d2 : ∀ v, (w1.setCell ⟨X, 0, none⟩ v).drew.cell? ⟨B, 0, none⟩ = some (.int .u64 s) := fun v =>
    (World.cell?_setCell_far w1 ⟨X, 0, none⟩ ⟨B, 0, none⟩ v (by show X ≠ B; omega)).trans c1
  have k6 := fun v => heap_setCell_same w1 X 0 _ 24 v k5
  have hw5 : ∀ v, Below w.heap.size w (w1.setCell ⟨X, 0, none⟩ v).drew := fun v => by rw [hX]; exact (al.setCell (p := ⟨X, 0, none⟩) (Nat.le_refl _) v).drew
  have c5 : ∀ v, (w1.setCell ⟨X, 0, none⟩ v).drew.cell? ⟨X, 0, none⟩ = some v := fun v => (cellOf (k6 v)).trans rfl
  have hne : X ≠ B := by omega
  clear k k5 k6 al c1
  go_region_held3 (fun w' => w'.cell? ⟨B, 0, none⟩ = some (.int .u64 s)) ((with_reducible first | exact d1 | exact d2 _)) (fail)
  go_wp2
  exact bodyPost_ret (v := .tuple #[.int .i64 x, .agg #[.int .u64 s], .int .i64 0]) (by simp [results, Tryz.results25, go_sem, c5]) rfl ⟨_, rfl, rfl, hw5 _⟩
set_option maxHeartbeats 1600000 in
set_option maxRecDepth 100000 in
theorem state_no {w : World} {v : Value} {x e : Int} (he : e ≠ 0) :
    Calls Tryz.prog 25 #[v, .int .i64 x, .int .i64 e] w (Gets (fun _ r => r = .tuple #[.int .i64 0, .agg #[.int .u64 0], .int .i64 e]) w) := by
  have he' : (e == 0) = false := by simpa using he
  have al := (Below.refl w.heap.size w).alloc (Nat.le_refl _) (.cells #[.int .u64 0] 24)
  have k5 := (MapKept.heap_alloc w (.cells #[.int .u64 0] 24)).1
  go_enter Tryz.func25, Tryz.ntmps25
  go_wp2
  generalize w.alloc (.cells #[.int .u64 0] 24) = w1 at *
  generalize hX : w.heap.size = X at *
  have c2 : w1.drew.cell? ⟨X, 0, none⟩ = some (.int .u64 0) := (cellOf (W := w1) k5).trans rfl
  have f2 : w1.drew.frozen? ⟨X, 0, none⟩ = false := frozenOf (W := w1) k5
  have k6 := fun v => heap_setCell_same w1 X 0 _ 24 v k5
  have hw5 : ∀ v, Below w.heap.size w (w1.setCell ⟨X, 0, none⟩ v).drew := fun v => by rw [hX]; exact (al.setCell (p := ⟨X, 0, none⟩) (Nat.le_refl _) v).drew
  have c5 : ∀ v, (w1.setCell ⟨X, 0, none⟩ v).drew.cell? ⟨X, 0, none⟩ = some v := fun v => (cellOf (k6 v)).trans rfl
  have d2 : (w1.setCell ⟨X, 0, none⟩ (.int .u64 0)).drew.cell? ⟨X, 0, none⟩ = some (.int .u64 0) := c5 _
  clear k5 k6 al
  go_region_held3 (fun w' => w'.cell? ⟨X, 0, none⟩ = some (.int .u64 0)) ((with_reducible first | exact c2 | exact d2)) (fail)
  go_wp2
  exact bodyPost_ret (v := .tuple #[.int .i64 0, .agg #[.int .u64 0], .int .i64 e]) (by simp [results, Tryz.results25, go_sem, c5]) rfl ⟨_, rfl, rfl, hw5 _⟩
end Go.Proofs.YtfeapgpjchjphaaGreat
