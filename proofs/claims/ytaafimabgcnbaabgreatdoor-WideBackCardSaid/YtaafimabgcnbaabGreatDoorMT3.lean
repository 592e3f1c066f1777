/-
  read: the number with these decimal digits, and whether it is a magnitude.
  digits: the decimal digits of a magnitude.
  Text of package wide, for every wide integer.
  Parse of package wide, for every text: the walk.
  Parse of package wide and that of the reference agree, for every text.
-/
import Derived.Test.YtaafimabgcnbaabGreatDoorMT1
import Derived.Test.YtaafimabgcnbaabGreatDoorMRA
import Derived.Test.YtaafimabgcnbaabGreatDoorMLFa
import Derived.Lib.OthersKept
import Derived.Test.YtaafimabgcnbaabGreatDoorMT2
import Derived.Test.YtaafimabgcnbaabGreatDoorMX
import Derived.Test.YtaafimabgcnbaabGreatDoorMR
set_option linter.all false
namespace Go.Proofs.YtaafimabgcnbaabGreatDoor
open Go Go.Rx Go.RowKit Go.Big
attribute [local instance] noAv
theorem numV_step {s : ByteArray} (hd : digFrom s 0) {k : Nat} (hk : k < s.size) : numV s (k + 1) = numV s k * 10 + ((s[k]'hk).toNat - 48) := by
  have := hd k hk (Nat.zero_le _)
  conv => lhs; unfold numV
  rw [dif_pos hk, if_neg (by omega)]
theorem numV_mono {s : ByteArray} (hd : digFrom s 0) : ∀ (j k : Nat), k + j ≤ s.size → numV s k ≤ numV s (k + j)
  | 0, k, _ => Nat.le_refl _
  | j + 1, k, h => by
    have h1 := numV_mono hd j k (by omega)
    have h2 := numV_step hd (k := k + j) (by omega)
    rw [← Nat.add_assoc, h2]; omega
/-- The word above a number. -/
theorem above_lt {m x : Nat} :
    (m * 10 + x < 13407807929942597099574024998205846127479365820592393377723561443721764030073546976801874298166903427690031858186486050853753882811946569946433649006084096 → (m * 10 + x) / 13407807929942597099574024998205846127479365820592393377723561443721764030073546976801874298166903427690031858186486050853753882811946569946433649006084096 = 0) ∧
    (¬ m * 10 + x < 13407807929942597099574024998205846127479365820592393377723561443721764030073546976801874298166903427690031858186486050853753882811946569946433649006084096 → 0 < (m * 10 + x) / 13407807929942597099574024998205846127479365820592393377723561443721764030073546976801874298166903427690031858186486050853753882811946569946433649006084096) := by
  constructor
  · intro h; exact Nat.div_eq_of_lt h
  · intro h; exact Nat.div_pos (by omega) (by decide)
/-- The cells of a block of eight words. -/
theorem cells8 {W : World} {B : Nat} {z0 z1 z2 z3 z4 z5 z6 z7 : Value} {t : TypeId} (k : W.heap[B]? = some (.cells #[z0, z1, z2, z3, z4, z5, z6, z7] t)) :
    (W.cell? ⟨B, 0, none⟩ = some z0 ∧ W.cell? ⟨B, 1, none⟩ = some z1 ∧ W.cell? ⟨B, 2, none⟩ = some z2 ∧ W.cell? ⟨B, 3, none⟩ = some z3 ∧ W.cell? ⟨B, 4, none⟩ = some z4 ∧ W.cell? ⟨B, 5, none⟩ = some z5 ∧ W.cell? ⟨B, 6, none⟩ = some z6 ∧ W.cell? ⟨B, 7, none⟩ = some z7) ∧
    (W.frozen? ⟨B, 0, none⟩ = false ∧ W.frozen? ⟨B, 1, none⟩ = false ∧ W.frozen? ⟨B, 2, none⟩ = false ∧ W.frozen? ⟨B, 3, none⟩ = false ∧ W.frozen? ⟨B, 4, none⟩ = false ∧ W.frozen? ⟨B, 5, none⟩ = false ∧ W.frozen? ⟨B, 6, none⟩ = false ∧ W.frozen? ⟨B, 7, none⟩ = false) :=
  ⟨⟨(cellOf (j := 0) k).trans rfl, (cellOf (j := 1) k).trans rfl, (cellOf (j := 2) k).trans rfl, (cellOf (j := 3) k).trans rfl, (cellOf (j := 4) k).trans rfl, (cellOf (j := 5) k).trans rfl, (cellOf (j := 6) k).trans rfl, (cellOf (j := 7) k).trans rfl⟩, ⟨frozenOf k, frozenOf k, frozenOf k, frozenOf k, frozenOf k, frozenOf k, frozenOf k, frozenOf k⟩⟩
/-- The words of a magnitude, under letters. -/
theorem magL (m : Nat) : ∃ d0 d1 d2 d3 d4 d5 d6 d7 : Int, magV m = .agg #[.int .u64 d0, .int .u64 d1, .int .u64 d2, .int .u64 d3, .int .u64 d4, .int .u64 d5, .int .u64 d6, .int .u64 d7] := ⟨_, _, _, _, _, _, _, _, rfl⟩
theorem magV_zero : magV 0 = .agg #[.int .u64 0, .int .u64 0, .int .u64 0, .int .u64 0, .int .u64 0, .int .u64 0, .int .u64 0, .int .u64 0] := by kernel_rfl
structure RdI (w : World) (s : ByteArray) (pos : Nat) (wr : World) : Prop where
  bel : Below w.heap.size w wr
  le : pos ≤ s.size
  it : wr.heap[w.heap.size + 2]? = some (.stringIter s pos)
  r2 : wr.heap[w.heap.size]? = some (.cells #[.int .u64 0, .int .u64 0, .int .u64 0, .int .u64 0, .int .u64 0, .int .u64 0, .int .u64 0, .int .u64 0] 59)
  r4 : ∃ d0 d1 d2 d3 d4 d5 d6 d7 : Int, wr.heap[w.heap.size + 1]? = some (.cells #[.int .u64 d0, .int .u64 d1, .int .u64 d2, .int .u64 d3, .int .u64 d4, .int .u64 d5, .int .u64 d6, .int .u64 d7] 59) ∧ magV (numV s pos) = .agg #[.int .u64 d0, .int .u64 d1, .int .u64 d2, .int .u64 d3, .int .u64 d4, .int .u64 d5, .int .u64 d6, .int .u64 d7]
  lt : numV s pos < 13407807929942597099574024998205846127479365820592393377723561443721764030073546976801874298166903427690031858186486050853753882811946569946433649006084096
def readV (s : ByteArray) : Value := if numV s s.size < 13407807929942597099574024998205846127479365820592393377723561443721764030073546976801874298166903427690031858186486050853753882811946569946433649006084096 then .tuple #[magV (numV s s.size), .bool true] else .tuple #[magV 0, .bool false]
set_option maxHeartbeats 3200000 in
set_option maxRecDepth 100000 in
theorem read_c {w : World} (s : ByteArray) (hd : digFrom s 0) : Calls Tryz.prog 31 #[.string s] w (Gets (fun _ r => r = readV s) w) := by
  go_enter Tryz.func31, Tryz.ntmps31
  go_wp2
  go_loopw [6] (fun _ wr => ∃ pos : Nat, RdI w s pos wr) (fun _ w' => s.size - w'.iterPos (w.heap.size + 2))
  case atStart =>
    have h3 := heap3 w (.cells #[.int .u64 0, .int .u64 0, .int .u64 0, .int .u64 0, .int .u64 0, .int .u64 0, .int .u64 0, .int .u64 0] 59) (.cells #[.int .u64 0, .int .u64 0, .int .u64 0, .int .u64 0, .int .u64 0, .int .u64 0, .int .u64 0, .int .u64 0] 59) (.stringIter s 0)
    refine ⟨0, ⟨below_al (below_al (below_al (Below.refl _ _) _) _) _, Nat.zero_le _, h3.2.2, h3.1, ⟨0, 0, 0, 0, 0, 0, 0, 0, h3.2.1, magV_zero⟩, ?_⟩⟩
    show 0 < _
    decide
  case round =>
    obtain ⟨pos, D⟩ := hrel
    have hit := D.it
    have hb := D.bel
    have hsz : w.heap.size + 2 < wr.heap.size := (Array.getElem?_eq_some_iff.1 hit).1
    obtain ⟨d0, d1, d2, d3, d4, d5, d6, d7, k4, hm⟩ := D.r4
    have hlt := D.lt
    have k2 := D.r2
    have hle := D.le
    clear D
    by_cases hp : pos < s.size
    · obtain ⟨c0, c1⟩ := hd pos hp (Nat.zero_le _)
      have hnx : ∀ ty, (Instr.next (.pointer (some ⟨w.heap.size + 2, 0, none⟩)) true ty).run Tryz.prog wr = _ := fun ty => Lib.run_next_ascii_at wr (w.heap.size + 2) s pos ty hit hp (by omega)
      have hit1 := Lib.iterAt_heap wr (w.heap.size + 2) s pos (pos + 1) hit
      have hb1 : Below w.heap.size w (wr.iterAt (w.heap.size + 2) s (pos + 1)) := Lib.below_iterAt hb (by omega) s (pos + 1)
      have k41 := (Lib.iterAt_other wr (w.heap.size + 2) (w.heap.size + 1) s (pos + 1) (by omega)).trans k4
      have k21 := (Lib.iterAt_other wr (w.heap.size + 2) w.heap.size s (pos + 1) (by omega)).trans k2
      have hmu : wr.iterPos (w.heap.size + 2) = pos := by simp [World.iterPos, hit]
      generalize wr.iterAt (w.heap.size + 2) s (pos + 1) = W1 at hnx hit1 hb1 k41 k21
      obtain ⟨⟨a0, a1, a2, a3, a4, a5, a6, a7⟩, -⟩ := cells8 k41
      obtain ⟨x, hx⟩ : ∃ x : Nat, x = (s[pos]'hp).toNat - 48 := ⟨_, rfl⟩
      have hst := numV_step hd hp
      rw [← hx] at hst
      have hx9 : x ≤ 9 := by omega
      have hub : IntKind.i32.wrap ((((s[pos]'hp).toNat : Nat) : Int) - 48) = (x : Int) := by rw [IntKind.wrap_i32]; omega
      have hub2 : IntKind.u64.wrap (x : Int) = (x : Int) := by rw [IntKind.wrap_u64]; omega
      obtain ⟨y, hy⟩ : ∃ y : Nat, y = (numV s pos * 10 + x) / 13407807929942597099574024998205846127479365820592393377723561443721764030073546976801874298166903427690031858186486050853753882811946569946433649006084096 := ⟨_, rfl⟩
      have H : ∀ W, Calls Tryz.prog 54 #[magV (numV s pos), .int .u64 10, .int .u64 (x : Int)] W (Gets (fun _ r => r = .tuple #[magV (numV s pos * 10 + x), .int .u64 (y : Int)]) W) := fun W => by rw [hy]; exact gives_gets (f_scaled (m := numV s pos) (f := 10) (x := x) hlt (by decide) (by omega)) W
      obtain ⟨e0, e1, e2, e3, e4, e5, e6, e7, he⟩ := magL (numV s pos * 10 + x)
      rw [hm, he] at H
      have hyy := above_lt (m := numV s pos) (x := x)
      rw [← hy] at hyy
      rw [← hst] at hyy he
      have hmono := numV_mono hd (s.size - (pos + 1)) (pos + 1) (by omega)
      rw [show pos + 1 + (s.size - (pos + 1)) = s.size by omega] at hmono
      have HMU := Lib.hid hmu
      clear hst hx hy hm k4 k2 hit c0 c1 hb hsz hmu hle hlt hx9
      go_wp2_with fail
      clear hub hub2 hnx a0 a1 a2 a3 a4 a5 a6 a7
      with_reducible refine (H _).mono ?_
      rintro e W2 ⟨r, rfl, rfl, hb2⟩
      have hb3 : Below w.heap.size w W2 := hb1.trans (hb2.mono hb1.size)
      have hit2 := (hb2.block _ (Array.getElem?_eq_some_iff.1 hit1).1).trans hit1
      have k42 := (hb2.block _ (Array.getElem?_eq_some_iff.1 k41).1).trans k41
      have k22 := (hb2.block _ (Array.getElem?_eq_some_iff.1 k21).1).trans k21
      obtain ⟨⟨a0, a1, a2, a3, a4, a5, a6, a7⟩, b0, b1, b2, b3, b4, b5, b6, b7⟩ := cells8 k42
      have hit3 := (set8_other (W := W2) (B := w.heap.size + 1) (k := w.heap.size + 2) (by omega) (.int .u64 e0) (.int .u64 e1) (.int .u64 e2) (.int .u64 e3) (.int .u64 e4) (.int .u64 e5) (.int .u64 e6) (.int .u64 e7)).trans hit2
      have k23 := (set8_other (W := W2) (B := w.heap.size + 1) (k := w.heap.size) (by omega) (.int .u64 e0) (.int .u64 e1) (.int .u64 e2) (.int .u64 e3) (.int .u64 e4) (.int .u64 e5) (.int .u64 e6) (.int .u64 e7)).trans k22
      have k43 := set8_heap k42 (.int .u64 e0) (.int .u64 e1) (.int .u64 e2) (.int .u64 e3) (.int .u64 e4) (.int .u64 e5) (.int .u64 e6) (.int .u64 e7)
      have hb4 := below_set8 hb3 (B := w.heap.size + 1) (by omega) (.int .u64 e0) (.int .u64 e1) (.int .u64 e2) (.int .u64 e3) (.int .u64 e4) (.int .u64 e5) (.int .u64 e6) (.int .u64 e7)
      have HE := Lib.hid he
      clear hb1 hb2 hb3 hit1 hit2 k41 k42 k21 k22 H he
      by_cases hfit : numV s (pos + 1) < 13407807929942597099574024998205846127479365820592393377723561443721764030073546976801874298166903427690031858186486050853753882811946569946433649006084096
      · obtain rfl : y = 0 := hyy.1 hfit
        clear hyy hmono
        have D' : RdI w s (pos + 1) ((((((((W2.setCell ⟨w.heap.size + 1, 0, none⟩ (.int .u64 e0)).setCell ⟨w.heap.size + 1, 1, none⟩ (.int .u64 e1)).setCell ⟨w.heap.size + 1, 2, none⟩ (.int .u64 e2)).setCell ⟨w.heap.size + 1, 3, none⟩ (.int .u64 e3)).setCell ⟨w.heap.size + 1, 4, none⟩ (.int .u64 e4)).setCell ⟨w.heap.size + 1, 5, none⟩ (.int .u64 e5)).setCell ⟨w.heap.size + 1, 6, none⟩ (.int .u64 e6)).setCell ⟨w.heap.size + 1, 7, none⟩ (.int .u64 e7)) := ⟨hb4, hp, hit3, k23, ⟨_, _, _, _, _, _, _, _, k43, HE.out⟩, hfit⟩
        have hmu3 : World.iterPos ((((((((W2.setCell ⟨w.heap.size + 1, 0, none⟩ (.int .u64 e0)).setCell ⟨w.heap.size + 1, 1, none⟩ (.int .u64 e1)).setCell ⟨w.heap.size + 1, 2, none⟩ (.int .u64 e2)).setCell ⟨w.heap.size + 1, 3, none⟩ (.int .u64 e3)).setCell ⟨w.heap.size + 1, 4, none⟩ (.int .u64 e4)).setCell ⟨w.heap.size + 1, 5, none⟩ (.int .u64 e5)).setCell ⟨w.heap.size + 1, 6, none⟩ (.int .u64 e6)).setCell ⟨w.heap.size + 1, 7, none⟩ (.int .u64 e7)) (w.heap.size + 2) = pos + 1 := by simp only [World.iterPos, hit3]
        have HMU3 := Lib.hid hmu3
        clear hb4 hit3 k23 k43 hfit hmu3
        go_wp2
        go_roundw
        case rel => exact ⟨pos + 1, D'⟩
        case measure => rw [HMU.out, HMU3.out]; omega
      · have hy0 := hyy.2 hfit
        have hne : ((y : Int) != 0) = true := by rw [bne_iff_ne]; omega
        have hno : readV s = .tuple #[magV 0, .bool false] := by unfold readV; rw [if_neg (by omega)]
        have HNO := Lib.hid hno
        obtain ⟨-, f0, f1, f2, f3, f4, f5, f6, f7⟩ := cells8 k23
        obtain ⟨⟨g0, g1, g2, g3, g4, g5, g6, g7⟩, -⟩ := cells8 k23
        have k24 := set8_heap k23 (.int .u64 0) (.int .u64 0) (.int .u64 0) (.int .u64 0) (.int .u64 0) (.int .u64 0) (.int .u64 0) (.int .u64 0)
        obtain ⟨⟨i0, i1, i2, i3, i4, i5, i6, i7⟩, -⟩ := cells8 k24
        have hb5 := below_set8 hb4 (B := w.heap.size) (by omega) (.int .u64 0) (.int .u64 0) (.int .u64 0) (.int .u64 0) (.int .u64 0) (.int .u64 0) (.int .u64 0) (.int .u64 0)
        clear hyy hmono hfit hy0 hno hb4 hit3 k23 k43 k24
        go_wp2
        exact bodyPost_ret (v := .tuple #[.agg #[.int .u64 0, .int .u64 0, .int .u64 0, .int .u64 0, .int .u64 0, .int .u64 0, .int .u64 0, .int .u64 0], .bool false]) (by simp [results, Tryz.results31, go_sem, i0, i1, i2, i3, i4, i5, i6, i7]) rfl ⟨_, rfl, by rw [HNO.out, magV_zero], hb5⟩
    · obtain rfl : pos = s.size := by omega
      have hnx : ∀ ty, (Instr.next (.pointer (some ⟨w.heap.size + 2, 0, none⟩)) true ty).run Tryz.prog wr = _ := fun ty => Lib.run_next_end_at wr (w.heap.size + 2) s s.size ty hit (by omega)
      have hyes : readV s = .tuple #[magV (numV s s.size), .bool true] := by unfold readV; rw [if_pos hlt]
      rw [hm] at hyes
      have HY := Lib.hid hyes
      obtain ⟨⟨a0, a1, a2, a3, a4, a5, a6, a7⟩, -⟩ := cells8 k4
      obtain ⟨⟨g0, g1, g2, g3, g4, g5, g6, g7⟩, f0, f1, f2, f3, f4, f5, f6, f7⟩ := cells8 k2
      have k24 := set8_heap k2 (.int .u64 d0) (.int .u64 d1) (.int .u64 d2) (.int .u64 d3) (.int .u64 d4) (.int .u64 d5) (.int .u64 d6) (.int .u64 d7)
      obtain ⟨⟨i0, i1, i2, i3, i4, i5, i6, i7⟩, -⟩ := cells8 k24
      have hb5 := below_set8 hb (B := w.heap.size) (by omega) (.int .u64 d0) (.int .u64 d1) (.int .u64 d2) (.int .u64 d3) (.int .u64 d4) (.int .u64 d5) (.int .u64 d6) (.int .u64 d7)
      clear hm hlt hyes k4 k2 k24 hb hit hsz hle hp
      go_wp2
      exact bodyPost_ret (v := .tuple #[.agg #[.int .u64 d0, .int .u64 d1, .int .u64 d2, .int .u64 d3, .int .u64 d4, .int .u64 d5, .int .u64 d6, .int .u64 d7], .bool true]) (by simp [results, Tryz.results31, go_sem, i0, i1, i2, i3, i4, i5, i6, i7]) rfl ⟨_, rfl, by rw [HY.out], hb5⟩
end Go.Proofs.YtaafimabgcnbaabGreatDoor
namespace Go.Proofs.YtaafimabgcnbaabGreatDoor
open Go Go.Rx Go.RowKit Go.Big
attribute [local instance] noAv
theorem ten155 : 13407807929942597099574024998205846127479365820592393377723561443721764030073546976801874298166903427690031858186486050853753882811946569946433649006084096 < 10 ^ (154 + 1) := by decide +kernel
/-- A magnitude has at most 155 digits. -/
theorem mag_digits {n : Nat} (h : n < 13407807929942597099574024998205846127479365820592393377723561443721764030073546976801874298166903427690031858186486050853753882811946569946433649006084096) : (Lib.decDigits n).length ≤ 155 := by
  rw [Lib.decDigits_length]
  exact Dg.nd_le' 154 n (Nat.lt_trans h ten155)
def strLen : Value → Nat
  | .string s => s.size
  | _ => 0
structure DwI (w : World) (N : Nat) (n : Nat) (o : List UInt8) (wr : World) : Prop where
  bel : Below w.heap.size w wr
  r1 : ∃ d0 d1 d2 d3 d4 d5 d6 d7 : Int, wr.heap[w.heap.size]? = some (.cells #[.int .u64 d0, .int .u64 d1, .int .u64 d2, .int .u64 d3, .int .u64 d4, .int .u64 d5, .int .u64 d6, .int .u64 d7] 59) ∧ magV n = .agg #[.int .u64 d0, .int .u64 d1, .int .u64 d2, .int .u64 d3, .int .u64 d4, .int .u64 d5, .int .u64 d6, .int .u64 d7]
  lt : n < 13407807929942597099574024998205846127479365820592393377723561443721764030073546976801874298166903427690031858186486050853753882811946569946433649006084096
  dec : Lib.decDigits n ++ o = Lib.decDigits N
theorem str_app (a b : List UInt8) : Value.string (({ data := a.toArray } : ByteArray) ++ { data := b.toArray }) = .string ⟨(a ++ b).toArray⟩ := by
  congr 1
theorem bytes_app (a b : List UInt8) : (({ data := a.toArray } : ByteArray) ++ { data := b.toArray }) = ⟨(a ++ b).toArray⟩ := Value.string.inj (str_app a b)
set_option maxHeartbeats 3200000 in
set_option maxRecDepth 100000 in
theorem digitsW_c {w : World} (N : Nat) (hN : N < 13407807929942597099574024998205846127479365820592393377723561443721764030073546976801874298166903427690031858186486050853753882811946569946433649006084096) (htab : Lib.TabIs Tryz.prog w "internal/strconv.uint64pow10" .u64 Lib.pow10Tab) : Calls Tryz.prog 34 #[magV N] w (Gets (fun _ r => r = .string ⟨(Lib.decDigits N).toArray⟩) w) := by
  have hlN := mag_digits hN
  obtain ⟨n0, n1, n2, n3, n4, n5, n6, n7, hmN⟩ := magL N
  have k0 := (MapKept.heap_alloc w (.cells #[.int .u64 n0, .int .u64 n1, .int .u64 n2, .int .u64 n3, .int .u64 n4, .int .u64 n5, .int .u64 n6, .int .u64 n7] 59)).1
  have bw : Below w.heap.size w (w.alloc (.cells #[.int .u64 n0, .int .u64 n1, .int .u64 n2, .int .u64 n3, .int .u64 n4, .int .u64 n5, .int .u64 n6, .int .u64 n7] 59)) := below_al (Below.refl _ _) _
  have HM := Lib.hid hmN
  rw [hmN]
  clear hmN
  go_enter Tryz.func34, Tryz.ntmps34
  go_wp2
  generalize w.alloc (.cells #[.int .u64 n0, .int .u64 n1, .int .u64 n2, .int .u64 n3, .int .u64 n4, .int .u64 n5, .int .u64 n6, .int .u64 n7] 59) = w1 at *
  go_loopw [3] (fun text wr => ∃ n o, text = .string ⟨o.toArray⟩ ∧ DwI w N n o wr) (fun text _ => 200 - strLen text)
  case atStart => exact ⟨N, [], rfl, ⟨bw, ⟨_, _, _, _, _, _, _, _, k0, HM.out⟩, hN, List.append_nil _⟩⟩
  case round =>
    clear k0 bw
    obtain ⟨n, o, rfl, D⟩ := hrel
    have hb := D.bel
    obtain ⟨d0, d1, d2, d3, d4, d5, d6, d7, k1, hm⟩ := D.r1
    have hlt := D.lt
    have hdec := D.dec
    have hol : o.length ≤ 155 := by
      have h1 := congrArg List.length hdec
      rw [List.length_append] at h1; omega
    clear D
    obtain ⟨⟨a0, a1, a2, a3, a4, a5, a6, a7⟩, -⟩ := cells8 k1
    obtain ⟨q, hq⟩ : ∃ q, n / 10000000000000000000 = q := ⟨_, rfl⟩
    obtain ⟨r, hr⟩ : ∃ r, n % 10000000000000000000 = r := ⟨_, rfl⟩
    have hrl : r < 10000000000000000000 := by omega
    have hn : n = q * 10000000000000000000 + r := by omega
    have hql : q < 13407807929942597099574024998205846127479365820592393377723561443721764030073546976801874298166903427690031858186486050853753882811946569946433649006084096 := by omega
    obtain ⟨q0, q1, q2, q3, q4, q5, q6, q7, hmq⟩ := magL q
    have HD : ∀ W, Calls Tryz.prog 56 #[.agg #[.int .u64 d0, .int .u64 d1, .int .u64 d2, .int .u64 d3, .int .u64 d4, .int .u64 d5, .int .u64 d6, .int .u64 d7], .int .u64 10000000000000000000] W (Gets (fun _ v => v = .tuple #[.agg #[.int .u64 q0, .int .u64 q1, .int .u64 q2, .int .u64 q3, .int .u64 q4, .int .u64 q5, .int .u64 q6, .int .u64 q7], .int .u64 (r : Int)]) W) := fun W => by
      have h := gives_gets (f_divWordG n 10000000000000000000 hlt (by decide)) W
      rw [hq, hr, hm, hmq] at h
      exact h
    have HF := fun W (hW : Below w.heap.size w W) => formatU_c (w := W) r (by omega) (tab_below htab hW)
    have HZ : ∀ W, Calls Tryz.prog 58 #[.agg #[.int .u64 q0, .int .u64 q1, .int .u64 q2, .int .u64 q3, .int .u64 q4, .int .u64 q5, .int .u64 q6, .int .u64 q7]] W (Gets (fun _ v => v = .bool (decide (q = 0))) W) := fun W => by
      have h := gives_gets (f_isZero q hql) W
      rw [hmq] at h
      exact h
    have hcl := Dg.chunk_len r hrl
    have HR := fun W => repeat_c (w := W) (19 - (Lib.decDigits r).length) (by omega)
    generalize hp : Lib.decDigits r = p at *
    have h0 := Lib.hid hdec
    have h1 := Lib.hid hn
    have h2 := Lib.hid hm
    have h3 := Lib.hid hmq
    have h4 := Lib.hid hp
    clear hdec hn hm hmq hq hr hp hlt
    go_wp2_with fail
    clear a0 a1 a2 a3 a4 a5 a6 a7
    with_reducible refine (HD _).mono ?_
    rintro e W2 ⟨v, rfl, rfl, hb2⟩
    have k2 := (hb2.block _ (Array.getElem?_eq_some_iff.1 k1).1).trans k1
    have bW2 : Below w.heap.size w W2 := hb.trans (hb2.mono hb.size)
    have kq := (MapKept.heap_alloc W2 (.cells #[.int .u64 q0, .int .u64 q1, .int .u64 q2, .int .u64 q3, .int .u64 q4, .int .u64 q5, .int .u64 q6, .int .u64 q7] 59)).1
    have bW3 : Below w.heap.size w (W2.alloc (.cells #[.int .u64 q0, .int .u64 q1, .int .u64 q2, .int .u64 q3, .int .u64 q4, .int .u64 q5, .int .u64 q6, .int .u64 q7] 59)) := below_al bW2 _
    have k3 := (((Below.refl _ _).alloc (Nat.le_refl _) (.cells #[.int .u64 q0, .int .u64 q1, .int .u64 q2, .int .u64 q3, .int .u64 q4, .int .u64 q5, .int .u64 q6, .int .u64 q7] 59) : Below W2.heap.size W2 _).block _ (Array.getElem?_eq_some_iff.1 k2).1).trans k2
    clear hb hb2 k1 k2 bW2 HD
    go_wp2_with fail
    have hXlt := (Array.getElem?_eq_some_iff.1 kq).1
    generalize W2.alloc (.cells #[.int .u64 q0, .int .u64 q1, .int .u64 q2, .int .u64 q3, .int .u64 q4, .int .u64 q5, .int .u64 q6, .int .u64 q7] 59) = W3 at *
    generalize W2.heap.size = X at *
    with_reducible refine (HF _ bW3).mono ?_
    rintro e W4 ⟨v, rfl, rfl, hb4⟩
    have bW4 : Below w.heap.size w W4 := bW3.trans (hb4.mono bW3.size)
    have k4 := (hb4.block _ (Array.getElem?_eq_some_iff.1 k3).1).trans k3
    have kq4 := (hb4.block _ hXlt).trans kq
    obtain ⟨⟨a0, a1, a2, a3, a4, a5, a6, a7⟩, -⟩ := cells8 kq4
    clear kq k3 bW3 hb4 HF
    go_wp2_with fail
    clear a0 a1 a2 a3 a4 a5 a6 a7
    with_reducible refine (HZ _).mono ?_
    rintro e W5 ⟨v, rfl, rfl, hb5⟩
    have bW5 : Below w.heap.size w W5 := bW4.trans (hb5.mono bW4.size)
    have k5 := (hb5.block _ (Array.getElem?_eq_some_iff.1 k4).1).trans k4
    have kq5 := (hb5.block _ (Array.getElem?_eq_some_iff.1 kq4).1).trans kq4
    clear kq4 k4 bW4 hb5 HZ
    by_cases hq0 : q = 0
    · rw [decide_eq_true hq0]
      clear k5 kq5
      go_wp2
      go_ret
      refine ⟨_, rfl, ?_, bW5⟩
      show Value.string (({ data := p.toArray } : ByteArray) ++ { data := o.toArray }) = _
      rw [str_app, ← h0.out, h1.out, hq0, Nat.zero_mul, Nat.zero_add, h4.out]
    · rw [decide_eq_false hq0]
      rw [show ((19 - p.length : Nat) : Int) = 19 - (p.length : Int) by omega] at HR
      have hdec : Lib.decDigits q ++ ((List.replicate (19 - p.length) 48 ++ p) ++ o) = Lib.decDigits N := by
        rw [← h0.out, h1.out, Dg.chunk q r (by omega) hrl, h4.out]
        simp only [List.append_assoc]
      have h5 := Lib.hid hdec
      clear hdec
      go_wp2_with fail
      with_reducible refine (HR _).mono ?_
      rintro e W6 ⟨v, rfl, rfl, hb6⟩
      have bW6 : Below w.heap.size w W6 := bW5.trans (hb6.mono bW5.size)
      have k6 := (hb6.block _ (Array.getElem?_eq_some_iff.1 k5).1).trans k5
      have kq6 := (hb6.block _ (Array.getElem?_eq_some_iff.1 kq5).1).trans kq5
      obtain ⟨⟨a0, a1, a2, a3, a4, a5, a6, a7⟩, -⟩ := cells8 kq6
      obtain ⟨⟨g0, g1, g2, g3, g4, g5, g6, g7⟩, f0, f1, f2, f3, f4, f5, f6, f7⟩ := cells8 k6
      have k7 := set8_heap k6 (.int .u64 q0) (.int .u64 q1) (.int .u64 q2) (.int .u64 q3) (.int .u64 q4) (.int .u64 q5) (.int .u64 q6) (.int .u64 q7)
      have bW7 := below_set8 bW6 (B := w.heap.size) (Nat.le_refl _) (.int .u64 q0) (.int .u64 q1) (.int .u64 q2) (.int .u64 q3) (.int .u64 q4) (.int .u64 q5) (.int .u64 q6) (.int .u64 q7)
      clear kq5 k5 bW5 hb6 HR kq6 k6 bW6
      have hrl2 : (List.replicate (19 - p.length) (48 : UInt8)).length = 19 - p.length := List.length_replicate
      generalize List.replicate (19 - p.length) (48 : UInt8) = z at *
      have h6 := Lib.hid hrl2
      have hzl : z.length ≤ 18 := by omega
      clear hrl2
      go_wp2
      go_roundw
      case rel => exact ⟨q, (z ++ p) ++ o, by rw [bytes_app, bytes_app], ⟨bW7, ⟨_, _, _, _, _, _, _, _, k7, h3.out⟩, hql, h5.out⟩⟩
      case measure =>
        show 200 - ((({ data := z.toArray } : ByteArray) ++ { data := p.toArray } ++ { data := o.toArray }).size) < 200 - ({ data := o.toArray } : ByteArray).size
        rw [bytes_app, bytes_app]
        show 200 - ((z ++ p) ++ o).toArray.size < 200 - o.toArray.size
        rw [List.size_toArray, List.size_toArray, List.length_append, List.length_append]
        omega
end Go.Proofs.YtaafimabgcnbaabGreatDoor
namespace Go.Proofs.YtaafimabgcnbaabGreatDoor
open Go Go.Rx Go.RowKit Go.Big
attribute [local instance] noAv
theorem abs_fits {x : Int} (hx : fit x) : x.natAbs < 13407807929942597099574024998205846127479365820592393377723561443721764030073546976801874298166903427690031858186486050853753882811946569946433649006084096 := by
  unfold fit P511 at hx; omega
/-- The cells of a block of eight words and a sign. -/
theorem cells9 {W : World} {B : Nat} {z0 z1 z2 z3 z4 z5 z6 z7 z8 : Value} {t : TypeId} (k : W.heap[B]? = some (.cells #[z0, z1, z2, z3, z4, z5, z6, z7, z8] t)) :
    W.cell? ⟨B, 0, none⟩ = some z0 ∧ W.cell? ⟨B, 1, none⟩ = some z1 ∧ W.cell? ⟨B, 2, none⟩ = some z2 ∧ W.cell? ⟨B, 3, none⟩ = some z3 ∧ W.cell? ⟨B, 4, none⟩ = some z4 ∧ W.cell? ⟨B, 5, none⟩ = some z5 ∧ W.cell? ⟨B, 6, none⟩ = some z6 ∧ W.cell? ⟨B, 7, none⟩ = some z7 ∧ W.cell? ⟨B, 8, none⟩ = some z8 :=
  ⟨(cellOf (j := 0) k).trans rfl, (cellOf (j := 1) k).trans rfl, (cellOf (j := 2) k).trans rfl, (cellOf (j := 3) k).trans rfl, (cellOf (j := 4) k).trans rfl, (cellOf (j := 5) k).trans rfl, (cellOf (j := 6) k).trans rfl, (cellOf (j := 7) k).trans rfl, (cellOf (j := 8) k).trans rfl⟩
set_option maxHeartbeats 3200000 in
set_option maxRecDepth 100000 in
theorem text_c {w : World} {x : Int} (hx : fit x) (htab : Lib.TabIs Tryz.prog w "internal/strconv.uint64pow10" .u64 Lib.pow10Tab) : Calls Tryz.prog 7 #[W x] w (Gets (fun _ r => r = .string ⟨(Lib.itoa x).toArray⟩) w) := by
  obtain ⟨n0, n1, n2, n3, n4, n5, n6, n7, hm⟩ := magL x.natAbs
  obtain ⟨b, hb⟩ : ∃ b, decide (x < 0) = b := ⟨_, rfl⟩
  have hs : sgV x.natAbs b = .agg #[.int .u64 n0, .int .u64 n1, .int .u64 n2, .int .u64 n3, .int .u64 n4, .int .u64 n5, .int .u64 n6, .int .u64 n7, .bool b] := by
    unfold magV at hm; unfold sgV
    injection hm with hm
    simp only [Array.mk.injEq, List.cons.injEq, Value.int.injEq, true_and, and_true] at hm
    obtain ⟨rfl, rfl, rfl, rfl, rfl, rfl, rfl, rfl⟩ := hm
    rfl
  have HS := fun U => gives_gets (f_signedOf x hx) U
  rw [hb, hs] at HS
  have HD := fun U (hU : Below w.heap.size w U) => digitsW_c (w := U) x.natAbs (abs_fits hx) (tab_below htab hU)
  rw [hm] at HD
  have hlen := mag_digits (abs_fits hx)
  have hit : Lib.itoa x = if b then 45 :: Lib.decDigits x.natAbs else Lib.decDigits x.natAbs := by
    unfold Lib.itoa
    by_cases h : x < 0
    · rw [if_pos h, ← hb, decide_eq_true h]; rfl
    · rw [if_neg h, ← hb, decide_eq_false h]
      show _ = Lib.decDigits x.natAbs
      congr 1; omega
  rw [hit]
  generalize Lib.decDigits x.natAbs = o at *
  have hol : ¬ 9223372036854775807 < 1 + o.length := by omega
  obtain ⟨u0, u1, u2, u3, u4, u5, u6, u7, hu⟩ := magL (un x)
  have hW : W x = .agg #[.int .u64 u0, .int .u64 u1, .int .u64 u2, .int .u64 u3, .int .u64 u4, .int .u64 u5, .int .u64 u6, .int .u64 u7] := hu
  rw [hW] at HS ⊢
  have bw : Below w.heap.size w (w.alloc (.cells #[.int .u64 u0, .int .u64 u1, .int .u64 u2, .int .u64 u3, .int .u64 u4, .int .u64 u5, .int .u64 u6, .int .u64 u7] 24)) := below_al (Below.refl _ _) _
  clear hm hb hs hx htab hit hu hW
  go_enter Tryz.func7, Tryz.ntmps7
  go_wp2_with fail
  generalize w.alloc (.cells #[.int .u64 u0, .int .u64 u1, .int .u64 u2, .int .u64 u3, .int .u64 u4, .int .u64 u5, .int .u64 u6, .int .u64 u7] 24) = w1 at *
  with_reducible refine (HS _).mono ?_
  rintro e w2 ⟨v, rfl, rfl, hb2⟩
  have b2 : Below w.heap.size w (w2.alloc (.cells #[.int .u64 n0, .int .u64 n1, .int .u64 n2, .int .u64 n3, .int .u64 n4, .int .u64 n5, .int .u64 n6, .int .u64 n7, .bool b] 64)) := below_al (bw.trans (hb2.mono bw.size)) _
  have k := (MapKept.heap_alloc w2 (.cells #[.int .u64 n0, .int .u64 n1, .int .u64 n2, .int .u64 n3, .int .u64 n4, .int .u64 n5, .int .u64 n6, .int .u64 n7, .bool b] 64)).1
  have H := HD _ b2
  obtain ⟨a0, a1, a2, a3, a4, a5, a6, a7, a8⟩ := cells9 k
  clear HD hb2 bw HS k
  cases b with
  | false =>
    go_wp2_with fail
    with_reducible refine H.mono ?_
    rintro e w3 ⟨v, rfl, rfl, hb3⟩
    have b3 := b2.trans (hb3.mono b2.size)
    clear hb3 b2 a0 a1 a2 a3 a4 a5 a6 a7 a8 H
    go_wp2
    go_ret
    exact ⟨_, rfl, rfl, b3⟩
  | true =>
    go_wp2_with fail
    with_reducible refine H.mono ?_
    rintro e w3 ⟨v, rfl, rfl, hb3⟩
    have b3 := b2.trans (hb3.mono b2.size)
    clear hb3 b2 a0 a1 a2 a3 a4 a5 a6 a7 a8 H
    go_wp2
    go_ret
    exact ⟨_, rfl, str_cons _ _, b3⟩
end Go.Proofs.YtaafimabgcnbaabGreatDoor
namespace Go.Proofs.YtaafimabgcnbaabGreatDoor
open Go Go.Rx Go.RowKit Go.Big
attribute [local instance] noAv
theorem cutP_c (s : ByteArray) (w : World) :
    Calls Tryz.prog 29 #[.string s, .string ⟨#[45]⟩] w fun e w' => e = .returned (.tuple #[.string ⟨(Lib.trimPrefix s.data.toList [45]).toArray⟩, .bool (Lib.hasPrefix s.data.toList [45])]) ∧ w' = w := Any.strings_CutPrefix Tryz.lays103 s ⟨#[45]⟩ w
set_option maxHeartbeats 3200000 in
set_option maxRecDepth 100000 in
theorem parse_no' {w : World} {s d : ByteArray} {neg num z : Bool} (hC : ∀ U, Calls Tryz.prog 29 #[.string s, .string ⟨#[45]⟩] U fun e w' => e = .returned (.tuple #[.string d, .bool neg]) ∧ w' = U)
    (hN : ∀ U, Calls Tryz.prog 30 #[.string d] U (Gets (fun _ r => r = .bool num) U)) (hz : (d.toList == [48]) = z) (hno : num = false ∨ (neg = true ∧ z = true)) :
    Calls Tryz.prog 6 #[.string s] w (Gets (fun _ r => r = .tuple #[W 0, .int .i64 5]) w) := by
  have k0 := (MapKept.heap_alloc w (.cells #[.int .u64 0, .int .u64 0, .int .u64 0, .int .u64 0, .int .u64 0, .int .u64 0, .int .u64 0, .int .u64 0] 24)).1
  have bw : Below w.heap.size w (w.alloc (.cells #[.int .u64 0, .int .u64 0, .int .u64 0, .int .u64 0, .int .u64 0, .int .u64 0, .int .u64 0, .int .u64 0] 24)) := below_al (Below.refl _ _) _
  rw [W0_eight]
  go_enter Tryz.func6, Tryz.ntmps6
  go_wp2_with fail
  generalize w.alloc (.cells #[.int .u64 0, .int .u64 0, .int .u64 0, .int .u64 0, .int .u64 0, .int .u64 0, .int .u64 0, .int .u64 0] 24) = w1 at *
  with_reducible refine (hC _).mono ?_
  rintro e w' ⟨rfl, rfl⟩
  clear hC
  go_wp2_with fail
  with_reducible refine (hN _).mono ?_
  rintro e w2 ⟨v, rfl, rfl, hb2⟩
  have b2 : Below w.heap.size w w2 := bw.trans (hb2.mono bw.size)
  have k2 := (hb2.block _ (Array.getElem?_eq_some_iff.1 k0).1).trans k0
  obtain ⟨-, f0, f1, f2, f3, f4, f5, f6, f7⟩ := cells8 k2
  obtain ⟨⟨g0, g1, g2, g3, g4, g5, g6, g7⟩, -⟩ := cells8 k2
  have k3 := set8_heap k2 (.int .u64 0) (.int .u64 0) (.int .u64 0) (.int .u64 0) (.int .u64 0) (.int .u64 0) (.int .u64 0) (.int .u64 0)
  obtain ⟨⟨i0, i1, i2, i3, i4, i5, i6, i7⟩, -⟩ := cells8 k3
  have b3 := below_set8 b2 (B := w.heap.size) (Nat.le_refl _) (.int .u64 0) (.int .u64 0) (.int .u64 0) (.int .u64 0) (.int .u64 0) (.int .u64 0) (.int .u64 0) (.int .u64 0)
  clear hN hb2 k0 bw b2 k2 k3
  cases num with
  | false =>
    clear hno hz
    go_wp2
    exact bodyPost_ret (v := .tuple #[.agg #[.int .u64 0, .int .u64 0, .int .u64 0, .int .u64 0, .int .u64 0, .int .u64 0, .int .u64 0, .int .u64 0], .int .i64 5]) (by simp [results, Tryz.results6, go_sem, i0, i1, i2, i3, i4, i5, i6, i7]) rfl ⟨_, rfl, rfl, b3⟩
  | true =>
    obtain ⟨rfl, rfl⟩ := hno.resolve_left (fun h => by cases h)
    clear hno
    go_wp2
    exact bodyPost_ret (v := .tuple #[.agg #[.int .u64 0, .int .u64 0, .int .u64 0, .int .u64 0, .int .u64 0, .int .u64 0, .int .u64 0, .int .u64 0], .int .i64 5]) (by simp [results, Tryz.results6, go_sem, i0, i1, i2, i3, i4, i5, i6, i7]) rfl ⟨_, rfl, rfl, b3⟩
set_option maxHeartbeats 3200000 in
set_option maxRecDepth 100000 in
theorem parse_yes' {w : World} {s d : ByteArray} {neg z f : Bool} {m0 m1 m2 m3 m4 m5 m6 m7 o0 o1 o2 o3 o4 o5 o6 o7 ee : Int} (hC : ∀ U, Calls Tryz.prog 29 #[.string s, .string ⟨#[45]⟩] U fun e w' => e = .returned (.tuple #[.string d, .bool neg]) ∧ w' = U)
    (hN : ∀ U, Calls Tryz.prog 30 #[.string d] U (Gets (fun _ r => r = .bool true) U)) (hz : (d.toList == [48]) = z) (hyes : neg = false ∨ z = false)
    (hR : ∀ U, Calls Tryz.prog 31 #[.string d] U (Gets (fun _ r => r = .tuple #[.agg #[.int .u64 m0, .int .u64 m1, .int .u64 m2, .int .u64 m3, .int .u64 m4, .int .u64 m5, .int .u64 m6, .int .u64 m7], .bool f]) U))
    (hO : ∀ U, Calls Tryz.prog 32 #[.agg #[.int .u64 m0, .int .u64 m1, .int .u64 m2, .int .u64 m3, .int .u64 m4, .int .u64 m5, .int .u64 m6, .int .u64 m7, .bool neg], .bool f] U (Gets (fun _ r => r = .tuple #[.agg #[.int .u64 o0, .int .u64 o1, .int .u64 o2, .int .u64 o3, .int .u64 o4, .int .u64 o5, .int .u64 o6, .int .u64 o7], .int .i64 ee]) U)) :
    Calls Tryz.prog 6 #[.string s] w (Gets (fun _ r => r = .tuple #[.agg #[.int .u64 o0, .int .u64 o1, .int .u64 o2, .int .u64 o3, .int .u64 o4, .int .u64 o5, .int .u64 o6, .int .u64 o7], .int .i64 ee]) w) := by
  have k0 := (MapKept.heap_alloc w (.cells #[.int .u64 0, .int .u64 0, .int .u64 0, .int .u64 0, .int .u64 0, .int .u64 0, .int .u64 0, .int .u64 0] 24)).1
  have bw : Below w.heap.size w (w.alloc (.cells #[.int .u64 0, .int .u64 0, .int .u64 0, .int .u64 0, .int .u64 0, .int .u64 0, .int .u64 0, .int .u64 0] 24)) := below_al (Below.refl _ _) _
  go_enter Tryz.func6, Tryz.ntmps6
  go_wp2_with fail
  generalize w.alloc (.cells #[.int .u64 0, .int .u64 0, .int .u64 0, .int .u64 0, .int .u64 0, .int .u64 0, .int .u64 0, .int .u64 0] 24) = w1 at *
  with_reducible refine (hC _).mono ?_
  rintro e w' ⟨rfl, rfl⟩
  clear hC
  go_wp2_with fail
  with_reducible refine (hN _).mono ?_
  rintro e w2 ⟨v, rfl, rfl, hb2⟩
  have b2 : Below w.heap.size w w2 := bw.trans (hb2.mono bw.size)
  have k2 := (hb2.block _ (Array.getElem?_eq_some_iff.1 k0).1).trans k0
  clear hN hb2 k0 bw
  have hgo : (neg = true → z = false) := fun h => by
    rcases hyes with h1 | h1
    · rw [h] at h1; cases h1
    · exact h1
  clear hyes
  cases neg with
  | false =>
    clear hgo hz
    go_wp2_with fail
    with_reducible refine (hR _).mono ?_
    rintro e w3 ⟨v, rfl, rfl, hb3⟩
    have b3 : Below w.heap.size w (w3.alloc (.cells #[.int .u64 m0, .int .u64 m1, .int .u64 m2, .int .u64 m3, .int .u64 m4, .int .u64 m5, .int .u64 m6, .int .u64 m7] 59)) := below_al (b2.trans (hb3.mono b2.size)) _
    have k3 := (hb3.block _ (Array.getElem?_eq_some_iff.1 k2).1).trans k2
    have km := (MapKept.heap_alloc w3 (.cells #[.int .u64 m0, .int .u64 m1, .int .u64 m2, .int .u64 m3, .int .u64 m4, .int .u64 m5, .int .u64 m6, .int .u64 m7] 59)).1
    have k4 := (((Below.refl _ _).alloc (Nat.le_refl _) (.cells #[.int .u64 m0, .int .u64 m1, .int .u64 m2, .int .u64 m3, .int .u64 m4, .int .u64 m5, .int .u64 m6, .int .u64 m7] 59) : Below w3.heap.size w3 _).block _ (Array.getElem?_eq_some_iff.1 k3).1).trans k3
    obtain ⟨⟨a0, a1, a2, a3, a4, a5, a6, a7⟩, -⟩ := cells8 km
    clear b2 k2 hb3 k3 km hR
    go_wp2_with fail
    generalize w3.alloc (.cells #[.int .u64 m0, .int .u64 m1, .int .u64 m2, .int .u64 m3, .int .u64 m4, .int .u64 m5, .int .u64 m6, .int .u64 m7] 59) = w4 at *
    generalize w3.heap.size = X at *
    clear a0 a1 a2 a3 a4 a5 a6 a7
    with_reducible refine (hO _).mono ?_
    rintro e w5 ⟨v, rfl, rfl, hb5⟩
    have b5 : Below w.heap.size w w5 := b3.trans (hb5.mono b3.size)
    have k5 := (hb5.block _ (Array.getElem?_eq_some_iff.1 k4).1).trans k4
    obtain ⟨-, f0, f1, f2, f3, f4, f5, f6, f7⟩ := cells8 k5
    obtain ⟨⟨g0, g1, g2, g3, g4, g5, g6, g7⟩, -⟩ := cells8 k5
    have k6 := set8_heap k5 (.int .u64 o0) (.int .u64 o1) (.int .u64 o2) (.int .u64 o3) (.int .u64 o4) (.int .u64 o5) (.int .u64 o6) (.int .u64 o7)
    obtain ⟨⟨i0, i1, i2, i3, i4, i5, i6, i7⟩, -⟩ := cells8 k6
    have b6 := below_set8 b5 (B := w.heap.size) (Nat.le_refl _) (.int .u64 o0) (.int .u64 o1) (.int .u64 o2) (.int .u64 o3) (.int .u64 o4) (.int .u64 o5) (.int .u64 o6) (.int .u64 o7)
    clear b3 k4 hb5 b5 k5 k6 hO
    go_wp2
    exact bodyPost_ret (v := .tuple #[.agg #[.int .u64 o0, .int .u64 o1, .int .u64 o2, .int .u64 o3, .int .u64 o4, .int .u64 o5, .int .u64 o6, .int .u64 o7], .int .i64 ee]) (by simp [results, Tryz.results6, go_sem, i0, i1, i2, i3, i4, i5, i6, i7]) rfl ⟨_, rfl, rfl, b6⟩
  | true =>
    obtain rfl : z = false := hgo rfl
    clear hgo
    go_wp2_with fail
    with_reducible refine (hR _).mono ?_
    rintro e w3 ⟨v, rfl, rfl, hb3⟩
    have b3 : Below w.heap.size w (w3.alloc (.cells #[.int .u64 m0, .int .u64 m1, .int .u64 m2, .int .u64 m3, .int .u64 m4, .int .u64 m5, .int .u64 m6, .int .u64 m7] 59)) := below_al (b2.trans (hb3.mono b2.size)) _
    have k3 := (hb3.block _ (Array.getElem?_eq_some_iff.1 k2).1).trans k2
    have km := (MapKept.heap_alloc w3 (.cells #[.int .u64 m0, .int .u64 m1, .int .u64 m2, .int .u64 m3, .int .u64 m4, .int .u64 m5, .int .u64 m6, .int .u64 m7] 59)).1
    have k4 := (((Below.refl _ _).alloc (Nat.le_refl _) (.cells #[.int .u64 m0, .int .u64 m1, .int .u64 m2, .int .u64 m3, .int .u64 m4, .int .u64 m5, .int .u64 m6, .int .u64 m7] 59) : Below w3.heap.size w3 _).block _ (Array.getElem?_eq_some_iff.1 k3).1).trans k3
    obtain ⟨⟨a0, a1, a2, a3, a4, a5, a6, a7⟩, -⟩ := cells8 km
    clear b2 k2 hb3 k3 km hR
    go_wp2_with fail
    generalize w3.alloc (.cells #[.int .u64 m0, .int .u64 m1, .int .u64 m2, .int .u64 m3, .int .u64 m4, .int .u64 m5, .int .u64 m6, .int .u64 m7] 59) = w4 at *
    generalize w3.heap.size = X at *
    clear a0 a1 a2 a3 a4 a5 a6 a7
    with_reducible refine (hO _).mono ?_
    rintro e w5 ⟨v, rfl, rfl, hb5⟩
    have b5 : Below w.heap.size w w5 := b3.trans (hb5.mono b3.size)
    have k5 := (hb5.block _ (Array.getElem?_eq_some_iff.1 k4).1).trans k4
    obtain ⟨-, f0, f1, f2, f3, f4, f5, f6, f7⟩ := cells8 k5
    obtain ⟨⟨g0, g1, g2, g3, g4, g5, g6, g7⟩, -⟩ := cells8 k5
    have k6 := set8_heap k5 (.int .u64 o0) (.int .u64 o1) (.int .u64 o2) (.int .u64 o3) (.int .u64 o4) (.int .u64 o5) (.int .u64 o6) (.int .u64 o7)
    obtain ⟨⟨i0, i1, i2, i3, i4, i5, i6, i7⟩, -⟩ := cells8 k6
    have b6 := below_set8 b5 (B := w.heap.size) (Nat.le_refl _) (.int .u64 o0) (.int .u64 o1) (.int .u64 o2) (.int .u64 o3) (.int .u64 o4) (.int .u64 o5) (.int .u64 o6) (.int .u64 o7)
    clear b3 k4 hb5 b5 k5 k6 hO
    go_wp2
    exact bodyPost_ret (v := .tuple #[.agg #[.int .u64 o0, .int .u64 o1, .int .u64 o2, .int .u64 o3, .int .u64 o4, .int .u64 o5, .int .u64 o6, .int .u64 o7], .int .i64 ee]) (by simp [results, Tryz.results6, go_sem, i0, i1, i2, i3, i4, i5, i6, i7]) rfl ⟨_, rfl, rfl, b6⟩
end Go.Proofs.YtaafimabgcnbaabGreatDoor
namespace Go.Proofs.YtaafimabgcnbaabGreatDoor
open Go Go.Rx Go.RowKit Go.Big
attribute [local instance] noAv
def NumOk (d : ByteArray) : Prop := digFrom d 0 ∧ ∃ h : 0 < d.size, ¬ ((d[0]'h).toNat = 48 ∧ 1 < d.size)
theorem at_succ (c : UInt8) (t : List UInt8) (j : Nat) (h : j + 1 < (⟨(c :: t).toArray⟩ : ByteArray).size) (h' : j < (⟨t.toArray⟩ : ByteArray).size) : (⟨(c :: t).toArray⟩ : ByteArray)[j + 1]'h = (⟨t.toArray⟩ : ByteArray)[j]'h' := rfl
theorem size_mk (t : List UInt8) : (⟨t.toArray⟩ : ByteArray).size = t.length := by simp [ByteArray.size]
theorem dig_tail {c : UInt8} {t : List UInt8} : digFrom ⟨(c :: t).toArray⟩ 1 ↔ digFrom ⟨t.toArray⟩ 0 := by
  have s1 := size_mk (c :: t)
  have s2 := size_mk t
  constructor
  · intro h j hj _
    have := h (j + 1) (by simp at s1; omega) (by omega)
    rw [at_succ c t j _ hj] at this
    exact this
  · intro h j hj h1
    obtain ⟨k, rfl⟩ : ∃ k, j = k + 1 := ⟨j - 1, by omega⟩
    have := h k (by simp at s1; omega) (Nat.zero_le _)
    rw [at_succ c t k hj (by simp at s1; omega)]
    exact this
theorem numV_tail {t : List UInt8} (hd : digFrom ⟨t.toArray⟩ 0) : ∀ k, k ≤ t.length → numV ⟨(45 :: t).toArray⟩ (k + 1) = numV ⟨t.toArray⟩ k
  | 0, _ => by
    have s1 := size_mk (45 :: t)
    show numV _ 1 = 0
    unfold numV
    rw [dif_pos (by rw [s1]; simp)]
    rw [if_pos (by rfl)]
    rfl
  | k + 1, h => by
    have s1 := size_mk (45 :: t)
    have s2 := size_mk t
    have ih := numV_tail hd k (by omega)
    have hk : k < (⟨t.toArray⟩ : ByteArray).size := by omega
    have h1 := hd k hk (Nat.zero_le _)
    rw [numV_step hd hk]
    conv => lhs; unfold numV
    rw [dif_pos (show k + 1 < (⟨(45 :: t).toArray⟩ : ByteArray).size by rw [s1]; simp; omega), at_succ 45 t k _ hk, if_neg (by omega), ih]
theorem numV_low {s : ByteArray} (hd : digFrom s 0) (h0 : 0 < s.size) (hz : (s[0]'h0).toNat ≠ 48) : ∀ k, k + 1 ≤ s.size → 10 ^ k ≤ numV s (k + 1)
  | 0, h => by
    have h1 := hd 0 h0 (Nat.le_refl _)
    rw [numV_step hd h0]
    have : numV s 0 = 0 := rfl
    rw [this]; omega
  | k + 1, h => by
    have ih := numV_low hd h0 hz k (by omega)
    rw [numV_step hd (show k + 1 < s.size by omega), Nat.pow_succ]
    omega
/-- What a text is made of. -/
theorem parts_text (s : ByteArray) : ∃ (d : ByteArray) (neg : Bool), (⟨(Lib.trimPrefix s.data.toList [45]).toArray⟩ : ByteArray) = d ∧ Lib.hasPrefix s.data.toList [45] = neg ∧
    (RightD s ↔ NumOk d ∧ ¬ (neg = true ∧ (d.toList == [48]) = true)) ∧ (∀ h : RightD s, textZ s (right_num h).1 = sg (numV d d.size) neg) ∧ (RightD s → 200 < s.size → 200 ≤ d.size ∧ ∀ h0 : 0 < d.size, (d[0]'h0).toNat ≠ 48) ∧ d.size ≤ s.size := by
  obtain ⟨l, hl⟩ : ∃ l : List UInt8, s = ⟨l.toArray⟩ := ⟨s.data.toList, by cases s; simp⟩
  subst hl
  show ∃ (d : ByteArray) (neg : Bool), (⟨(Lib.trimPrefix l [45]).toArray⟩ : ByteArray) = d ∧ Lib.hasPrefix l [45] = neg ∧ _
  by_cases hp : Lib.hasPrefix l [45] = true
  · obtain ⟨t, rfl⟩ : ∃ t, l = 45 :: t := by
      unfold Lib.hasPrefix at hp
      cases l with
      | nil => simp at hp
      | cons c t => simp at hp; exact ⟨t, by rw [hp]⟩
    have s1 := size_mk (45 :: t)
    have s2 := size_mk t
    rw [List.length_cons] at s1
    have h45 : ((⟨(45 :: t).toArray⟩ : ByteArray)[0]'(by omega)).toNat = 45 := rfl
    have hsg : signAt ⟨(45 :: t).toArray⟩ = 1 := by unfold signAt; rw [dif_pos (by omega), if_pos h45]
    have hR : RightD ⟨(45 :: t).toArray⟩ ↔ NumOk ⟨t.toArray⟩ ∧ ¬ ((true : Bool) = true ∧ ((⟨t.toArray⟩ : ByteArray).toList == [48]) = true) := by
      unfold RightD NumOk
      rw [hsg, dig_tail]
      constructor
      · rintro ⟨h1, h2, h3⟩
        have h0 : 0 < (⟨t.toArray⟩ : ByteArray).size := by omega
        rw [at_succ 45 t 0 h1 h0] at h2
        refine ⟨⟨h3, h0, fun h => h2 ⟨h.1, by omega⟩⟩, fun h => ?_⟩
        by_cases h8 : ((⟨t.toArray⟩ : ByteArray)[0]'h0).toNat = 48
        · exact h2 ⟨h8, by omega⟩
        · rw [no_zero _ (fun ⟨_, h', _⟩ => h8 h')] at h
          exact absurd h.2 (by decide)
      · rintro ⟨⟨h3, h0, h2⟩, h4⟩
        refine ⟨by omega, ?_, h3⟩
        rw [at_succ 45 t 0 (by omega) h0]
        rintro ⟨h8, -⟩
        refine h4 ⟨rfl, is_zero _ h0 h8 ?_⟩
        have : ¬ 1 < (⟨t.toArray⟩ : ByteArray).size := fun h => h2 ⟨h8, h⟩
        omega
    refine ⟨⟨t.toArray⟩, true, ?_, hp, hR, fun h => ?_, fun h hl => ?_, by omega⟩
    · unfold Lib.trimPrefix; rw [if_pos hp]; rfl
    · have hn := ((hR.1 h).1).1
      unfold textZ
      rw [beq_iff_eq.2 h45, sgz_t, s1, numV_tail hn t.length (Nat.le_refl _), s2]
      rfl
    · refine ⟨by omega, fun h0 h8 => ?_⟩
      obtain ⟨h1, h2, -⟩ := h
      simp only [hsg] at h1 h2
      rw [at_succ 45 t 0 h1 h0] at h2
      exact h2 ⟨h8, by omega⟩
  · have hf : Lib.hasPrefix l [45] = false := by simpa using hp
    have h45 : ∀ h0 : 0 < (⟨l.toArray⟩ : ByteArray).size, ((⟨l.toArray⟩ : ByteArray)[0]'h0).toNat ≠ 45 := fun h0 h => by
      cases l with
      | nil => exact absurd h0 (by decide)
      | cons c t =>
        have h1 : c.toNat = 45 := h
        have h2 : c = 45 := UInt8.toNat_inj.1 h1
        rw [h2] at hp
        exact hp rfl
    have hsg : signAt ⟨l.toArray⟩ = 0 := by
      unfold signAt
      by_cases h0 : 0 < (⟨l.toArray⟩ : ByteArray).size
      · rw [dif_pos h0, if_neg (h45 h0)]
      · rw [dif_neg h0]
    refine ⟨⟨l.toArray⟩, false, ?_, hf, ?_, fun h => ?_, fun h hl => ?_, Nat.le_refl _⟩
    · unfold Lib.trimPrefix; rw [if_neg hp]
    · unfold RightD NumOk
      rw [hsg]
      constructor
      · rintro ⟨h1, h2, h3⟩
        exact ⟨⟨h3, h1, h2⟩, fun h => by cases h.1⟩
      · rintro ⟨⟨h3, h1, h2⟩, -⟩
        exact ⟨h1, h2, h3⟩
    · unfold textZ
      rw [beq_eq_false_iff_ne.2 (h45 _), sgz_f]
      rfl
    · refine ⟨by omega, fun h0 h8 => ?_⟩
      obtain ⟨h1, h2, -⟩ := h
      simp only [hsg] at h1 h2
      exact h2 ⟨h8, by omega⟩
theorem big_num {d : ByteArray} (hd : digFrom d 0) (hl : 200 ≤ d.size) (hz : ∀ h0 : 0 < d.size, (d[0]'h0).toNat ≠ 48) : ¬ numV d d.size < 13407807929942597099574024998205846127479365820592393377723561443721764030073546976801874298166903427690031858186486050853753882811946569946433649006084096 := by
  have h1 := numV_low hd (by omega) (hz (by omega)) (d.size - 1) (by omega)
  rw [show d.size - 1 + 1 = d.size by omega] at h1
  have h2 := Nat.pow_le_pow_right (show 0 < 10 by decide) (show 154 + 1 ≤ d.size - 1 by omega)
  have h3 := ten155
  generalize 10 ^ (d.size - 1) = X at *
  generalize 10 ^ (154 + 1) = Y at *
  omega
theorem sg_big {n : Nat} {b : Bool} (h : ¬ n < 13407807929942597099574024998205846127479365820592393377723561443721764030073546976801874298166903427690031858186486050853753882811946569946433649006084096) : ¬ fit (sg n b) := by
  unfold fit P511 sg
  cases b
  · simp only [Bool.false_eq_true, if_false]; omega
  · simp only [if_true]; omega
theorem res_of (z : Int) : ∃ x e, fit x ∧ (.tuple #[W x, .int .i64 e] : Value) = if fit z then outV z else bigV := by
  by_cases h : fit z
  · exact ⟨z, 0, h, by rw [if_pos h]; rfl⟩
  · exact ⟨0, 6, by unfold fit P511; omega, by rw [if_neg h]; rfl⟩
end Go.Proofs.YtaafimabgcnbaabGreatDoor
