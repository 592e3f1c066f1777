/-
  The calls of Shuffle in works().
-/
import Derived.Test.YtfeapgpjchjphaaGreatMCJ
set_option linter.all false
namespace Go.Proofs.YtfeapgpjchjphaaGreat
open Go Go.RowKit Go.Big Go.Shelf
attribute [local instance] noAv
set_option maxHeartbeats 1600000 in
set_option maxRecDepth 100000 in
theorem shuffle_arg {w : World} {s n : Int} (h1 : 400 < n) : Calls Tryz.prog 13 #[.agg #[.int .u64 s], .int .i64 n] w (Gets (fun _ r => r = .tuple #[.slice none 0 0, .agg #[.int .u64 0], .int .i64 2]) w) := by
  have h0 : ¬ n < 0 := by omega
  have h1' : n > 400 := h1
  have nb := fun o o' => next_below (w := w) (o := o) (o' := o')
  have k := fun o o' => (heap2 w o o').2
  have c := fun o v => (cellOf (j := 0) (k o (.cells #[v] 24))).trans (show (#[v] : Array Value)[0]? = some v from rfl)
  clear k
  go_enter Tryz.func13, Tryz.ntmps13
  go_wp2
  exact bodyPost_ret (v := .tuple #[.slice none 0 0, .agg #[.int .u64 0], .int .i64 2]) (by simp [results, Tryz.results13, go_sem, c]) rfl ⟨_, rfl, rfl, nb _ _⟩
set_option maxHeartbeats 1600000 in
set_option maxRecDepth 100000 in
theorem make_1 (U : World) : (Instr.makeSlice 45 (.int .i64 1) (.int .i64 1)).run Tryz.prog U = .ok (.slice (some ⟨U.heap.size, 0, none⟩) 1 1) (U.alloc (.cells #[.int .i64 0] 3)) :=
  (run_makeSlice (P := Tryz.prog) U 45 3 Tryz.t3 (.int .i64 0) (by kernel_rfl) (by kernel_rfl) (by kernel_rfl) .i64 .i64 1 1 (by decide) (by decide) (by decide) (by decide) (by decide)).trans (by rw [show madeCells (Value.int .i64 0).cells (Int.toNat 1 * Tryz.t3.size) = #[.int .i64 0] by kernel_rfl]; rfl)
set_option maxHeartbeats 1600000 in
set_option maxRecDepth 100000 in
theorem shuffle_1 {w : World} {s : Int} : Calls Tryz.prog 13 #[.agg #[.int .u64 s], .int .i64 1] w (Gets (fun w' r => ∃ B, r = .tuple #[.slice (some ⟨B, 0, none⟩) 1 1, .agg #[.int .u64 s], .int .i64 0] ∧ w'.heap[B]? = some (.cells #[.int .i64 0] 3)) w) := by
  have nb := fun o o' o3 => (next_below (w := w) (o := o) (o' := o')).alloc (by simp; omega) o3
  have sz3 : ∀ o o' o3, (((w.alloc o).alloc o').alloc o3).heap.size = w.heap.size + 3 := fun o o' o3 => by simp
  have kk := fun o o' o3 => keepH (heap2 w o o').2 ((Below.refl _ ((w.alloc o).alloc o')).alloc (Nat.le_refl _) o3)
  have ks := fun o o' o3 => (MapKept.heap_alloc ((w.alloc o).alloc o') o3).1
  have sz2 : ∀ o o', ((w.alloc o).alloc o').heap.size = w.heap.size + 1 + 1 := fun o o' => by simp
  simp only [sz2] at ks
  clear sz2
  have mk := make_1
  go_enter Tryz.func13, Tryz.ntmps13
  go_wp2_with fail
  refine wp_loop_rounds 2 ?_
  rw [rounds_succ]
  go_wp2_with fail
  rw [rounds_succ]
  go_wp2_with fail
  refine (from_c s).mono ?_
  rintro e w2 ⟨r, rfl, ⟨X, rfl, hX, hle⟩, hb⟩
  have k1 := keepH (kk _ _ _) hb
  have k3 := keepH (ks _ _ _) hb
  have hw := (nb _ _ _).trans (hb.mono (by rw [sz3]; omega))
  rw [sz3] at hle
  clear hb kk ks nb sz3 mk
  have c1 : w2.drew.cell? ⟨X, 0, none⟩ = some (.int .u64 s) := (cellOf (W := w2) hX).trans rfl
  have c2 : w2.drew.cell? ⟨w.heap.size + 1, 0, none⟩ = some (.int .u64 0) := (cellOf (W := w2) k1).trans rfl
  have f2 : w2.drew.frozen? ⟨w.heap.size + 1, 0, none⟩ = false := frozenOf (W := w2) k1
  have d2 : ∀ v, (w2.setCell ⟨w.heap.size + 1, 0, none⟩ v).drew.cell? ⟨X, 0, none⟩ = some (.int .u64 s) := fun v =>
    (World.cell?_setCell_far w2 ⟨w.heap.size + 1, 0, none⟩ ⟨X, 0, none⟩ v (by show w.heap.size + 1 ≠ X; omega)).trans ((cellOf (W := w2) hX).trans rfl)
  have k5 := fun v => heap_setCell_same w2 (w.heap.size + 1) 0 _ 24 v k1
  have c5 : ∀ v, (w2.setCell ⟨w.heap.size + 1, 0, none⟩ v).drew.cell? ⟨w.heap.size + 1, 0, none⟩ = some v := fun v => (cellOf (W := w2.setCell ⟨w.heap.size + 1, 0, none⟩ v) (k5 v)).trans rfl
  have hw5 : ∀ v, Below w.heap.size w (w2.setCell ⟨w.heap.size + 1, 0, none⟩ v).drew := fun v => (hw.setCell (p := ⟨w.heap.size + 1, 0, none⟩) (Nat.le_succ _) v).drew
  have k6 : ∀ v, (w2.setCell ⟨w.heap.size + 1, 0, none⟩ v).drew.heap[w.heap.size + 1 + 1]? = some (.cells #[.int .i64 0] 3) := fun v => (setOther (w := w2) (X := w.heap.size + 1) (T := w.heap.size + 1 + 1) (by omega) v).trans k3
  clear k1 k3 k5 hw hX
  go_wp2_with fail
  refine wp_loop_rounds 1 ?_
  rw [rounds_succ]
  go_wp2_with fail
  go_region_held3 (fun w' => w'.cell? ⟨X, 0, none⟩ = some (.int .u64 s)) ((with_reducible first | exact c1 | exact d2 _)) (fail)
  go_wp2
  exact bodyPost_ret (v := .tuple #[.slice (some ⟨w.heap.size + 1 + 1, 0, none⟩) 1 1, .agg #[.int .u64 s], .int .i64 0]) (by simp [results, Tryz.results13, go_sem, c5]) rfl ⟨_, rfl, ⟨_, rfl, k6 _⟩, hw5 _⟩
end Go.Proofs.YtfeapgpjchjphaaGreat
