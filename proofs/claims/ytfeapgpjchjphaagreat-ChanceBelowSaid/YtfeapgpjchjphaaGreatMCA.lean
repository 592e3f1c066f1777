/-
  The generator's step: Next of the program and of the reference.
  Split of the program and of the reference.
-/
import Derived.Test.YtfeapgpjchjphaaGreatMK
import Derived.Test.YtfeapgpjchjphaaGreatRows
import Derived.Outline
import Derived.Deep.RegionHeld3
set_option linter.all false
namespace Go.Proofs.YtfeapgpjchjphaaGreat
open Go Go.RowKit Go.Big
attribute [local instance] noAv
def st (s : Int) : Int := IntKind.u64.wrap (s + 11400714819323198485)
def mxa (a : Int) : Int := IntKind.u64.wrap (bits BinOp.xor IntKind.u64 a (a / 1073741824) * 13787848793156543929)
def mx2 (a : Int) : Int := IntKind.u64.wrap (bits BinOp.xor IntKind.u64 a (a / 134217728) * 10723151780598845931)
def mx3 (a : Int) : Int := bits BinOp.xor IntKind.u64 a (a / 2147483648)
def mix (s : Int) : Int := mx3 (mx2 (mxa (st s)))
def nextV (s : Int) : Value := .tuple #[.int .u64 (mix s), .agg #[.int .u64 (st s)]]
theorem wrap_u (v : Int) : IntKind.u64.wrap v = v % 18446744073709551616 := by rfl
theorem quo_u (v k : Int) (hk : 0 < k) : IntKind.u64.wrap ((IntKind.u64.wrap v).tdiv k) = IntKind.u64.wrap v / k := by
  rw [wrap_u v, wrap_u]
  have h0 : 0 ≤ v % 18446744073709551616 := Int.emod_nonneg _ (by decide)
  have h1 : v % 18446744073709551616 < 18446744073709551616 := Int.emod_lt_of_pos _ (by decide)
  generalize v % 18446744073709551616 = x at *
  rw [Int.tdiv_eq_ediv_of_nonneg h0]
  have h2 : 0 ≤ x / k := Int.ediv_nonneg h0 (Int.le_of_lt hk)
  have h3 : x / k ≤ x := Int.ediv_le_self _ h0
  exact Int.emod_eq_of_lt h2 (by omega)
theorem next_below {w : World} {o o' : Obj} : Below w.heap.size w ((w.alloc o).alloc o') := ((Below.refl _ w).alloc (Nat.le_refl _) o).alloc (by simp) o'
set_option maxHeartbeats 800000 in
set_option maxRecDepth 100000 in
theorem refNext_c {w : World} (s : Int) : Calls Tryz.prog 30 #[.agg #[.int .u64 s]] w (Gets (fun _ r => r = nextV s) w) := by
  go_enter Tryz.func30, Tryz.ntmps30
  go_wp2
  simp only [quo_u _ _ (show (0 : Int) < 1073741824 by decide), quo_u _ _ (show (0 : Int) < 134217728 by decide), quo_u _ _ (show (0 : Int) < 2147483648 by decide)]
  have e1 : IntKind.u64.wrap (s + 11400714819323198485) = st s := rfl
  simp only [e1]
  have e2 : IntKind.u64.wrap (bits BinOp.xor IntKind.u64 (st s) (st s / 1073741824) * 13787848793156543929) = mxa (st s) := rfl
  simp only [e2]
  have e3 : IntKind.u64.wrap (bits BinOp.xor IntKind.u64 (mxa (st s)) (mxa (st s) / 134217728) * 10723151780598845931) = mx2 (mxa (st s)) := rfl
  simp only [e3]
  have e4 : bits BinOp.xor IntKind.u64 (mx2 (mxa (st s))) (mx2 (mxa (st s)) / 2147483648) = mix s := rfl
  simp only [e4]
  exact bodyPost_ret (v := nextV s) (by simp [results, Tryz.results30, go_sem, nextV]) rfl ⟨_, rfl, rfl, next_below⟩
set_option maxHeartbeats 800000 in
set_option maxRecDepth 100000 in
theorem step_c {w : World} {B : Nat} (s : Int) (hk : w.heap[B]? = some (.cells #[.int .u64 s] 88)) : Calls Tryz.prog 43 #[.pointer (some ⟨B, 0, none⟩)] w (fun e w' => e = .returned (.int .u64 (mix s)) ∧ w' = w.setCell ⟨B, 0, none⟩ (.int .u64 (st s))) := by
  have hc : w.cell? ⟨B, 0, none⟩ = some (.int .u64 s) := cellOf hk
  have hf : w.frozen? ⟨B, 0, none⟩ = false := frozenOf hk
  go_enter Tryz.func43, Tryz.ntmps43
  go_wp2
  go_ret
  exact ⟨rfl, rfl⟩
set_option maxHeartbeats 800000 in
set_option maxRecDepth 100000 in
theorem from_c {w : World} (s : Int) : Calls Tryz.prog 23 #[.agg #[.int .u64 s]] w (Gets (fun w' r => ∃ B, r = .pointer (some ⟨B, 0, none⟩) ∧ w'.heap[B]? = some (.cells #[.int .u64 s] 88) ∧ w.heap.size ≤ B) w) := by
  go_enter Tryz.func23, Tryz.ntmps23
  go_wp2
  go_ret
  exact ⟨_, rfl, ⟨_, rfl, (heap2 w _ _).2, Nat.le_succ _⟩, next_below⟩
set_option maxHeartbeats 1600000 in
set_option maxRecDepth 100000 in
theorem next_c {w : World} (s : Int) : Calls Tryz.prog 16 #[.agg #[.int .u64 s]] w (Gets (fun _ r => r = nextV s) w) := by
  have h2 := fun o o' => heap2 w o o'
  have nb := fun o o' => next_below (w := w) (o := o) (o' := o')
  have sz : ∀ o o', ((w.alloc o).alloc o').heap.size = w.heap.size + 1 + 1 := fun o o' => by simp
  go_enter Tryz.func16, Tryz.ntmps16
  go_wp2_with fail
  refine (from_c s).mono ?_
  rintro e w2 ⟨r, rfl, ⟨B, rfl, hB, hle⟩, hb⟩
  have k0 := (hb.block (w.heap.size + 1) (by rw [sz]; omega)).trans (h2 _ _).2
  have hw := (nb _ _).trans (hb.mono (by rw [sz]; omega))
  rw [sz] at hle
  clear hb h2 nb sz
  go_wp2_with fail
  refine (step_c s hB).mono ?_
  rintro e w3 ⟨rfl, rfl⟩
  have hB3 := heap_setCell_same w2 B 0 _ 88 (.int .u64 (st s)) hB
  have k3 : (w2.setCell ⟨B, 0, none⟩ (.int .u64 (st s))).heap[w.heap.size + 1]? = some (.cells #[.int .u64 0] 24) := by
    exact (((Below.refl B w2).setCell (p := ⟨B, 0, none⟩) (Nat.le_refl B) _).block (w.heap.size + 1) (by omega)).trans k0
  have hw3 : Below w.heap.size w (w2.setCell ⟨B, 0, none⟩ (.int .u64 (st s))) := hw.setCell (p := ⟨B, 0, none⟩) (by show w.heap.size ≤ B; omega) _
  clear hB k0 hw
  generalize w2.setCell ⟨B, 0, none⟩ (.int .u64 (st s)) = w4 at *
  have c1 : w4.cell? ⟨B, 0, none⟩ = some (.int .u64 (st s)) := (cellOf hB3).trans rfl
  have c2 : w4.cell? ⟨w.heap.size + 1, 0, none⟩ = some (.int .u64 0) := (cellOf k3).trans rfl
  have f2 : w4.frozen? ⟨w.heap.size + 1, 0, none⟩ = false := frozenOf k3
  have hsz : w.heap.size + 1 < w4.heap.size := (Array.getElem?_eq_some_iff.1 k3).1
  have c2' : w4.drew.cell? ⟨w.heap.size + 1, 0, none⟩ = some (.int .u64 0) := c2
  have f2' : w4.drew.frozen? ⟨w.heap.size + 1, 0, none⟩ = false := f2
  have d1 : w4.drew.cell? ⟨B, 0, none⟩ = some (.int .u64 (st s)) := c1
  have d2 : ∀ v, (w4.setCell ⟨w.heap.size + 1, 0, none⟩ v).drew.cell? ⟨B, 0, none⟩ = some (.int .u64 (st s)) := fun v =>
    (World.cell?_setCell_far w4 ⟨w.heap.size + 1, 0, none⟩ ⟨B, 0, none⟩ v (by show w.heap.size + 1 ≠ B; omega)).trans c1
  have k5 := fun v => heap_setCell_same w4 (w.heap.size + 1) 0 _ 24 v k3
  have hw5 : ∀ v, Below w.heap.size w (w4.setCell ⟨w.heap.size + 1, 0, none⟩ v).drew := fun v => (hw3.setCell (p := ⟨w.heap.size + 1, 0, none⟩) (Nat.le_succ _) v).drew
  have c5 : ∀ v, (w4.setCell ⟨w.heap.size + 1, 0, none⟩ v).drew.cell? ⟨w.heap.size + 1, 0, none⟩ = some v := fun v => (cellOf (k5 v)).trans rfl
  clear hB3 k3 k5 hw3
  go_wp2
  go_region_held3 (fun w' => w'.cell? ⟨B, 0, none⟩ = some (.int .u64 (st s))) ((with_reducible first | exact d1 | exact d2 _)) (fail)
  go_wp2
  exact bodyPost_ret (v := nextV s) (by simp [results, Tryz.results16, go_sem, nextV, c5]) rfl ⟨_, rfl, rfl, hw5 _⟩
end Go.Proofs.YtfeapgpjchjphaaGreat
namespace Go.Proofs.YtfeapgpjchjphaaGreat
open Go Go.RowKit Go.Big
attribute [local instance] noAv
def splitV (s l : Int) : Value := .agg #[.int .u64 (mix (bits BinOp.xor IntKind.u64 s (mix (IntKind.u64.wrap l))))]
end Go.Proofs.YtfeapgpjchjphaaGreat
