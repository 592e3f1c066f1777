/-
  Decimal digits in chunks of nineteen; what octets stand for, from one place to the next.
  Where some functions of the library of Go lie in this program.
  strconv.FormatUint at base 10: the decimal numeral of every word.
  strings.Repeat of a zero, up to eighteen times.
-/
import Derived.Lib.ItoaNum
import Derived.Lib.Strings
import Derived.Test.YtaafimabgcnbaabGreatDoorProg
import Derived.Shelf.LaysM
import Derived.Shelf.Strconv.Itoa2
import Derived.Shelf.Small.Wraps
import Derived.Test.YtaafimabgcnbaabGreatDoorMK
import Derived.Shelf.Strconv.Itoa1
import Derived.Lib.AppendIntMem
import Derived.Lib.SmallJoins
import Derived.Test.YtaafimabgcnbaabGreatDoorMS
import Derived.Shelf.Strings.Prefix
set_option linter.all false
namespace Go.Dg
open Go
/-- The last k decimal digits of r, with zeros ahead. -/
def padD : Nat → Nat → List UInt8
  | 0, _ => []
  | k + 1, r => padD k (r / 10) ++ [UInt8.ofNat (48 + r % 10)]
theorem padD_len : ∀ (k r : Nat), (padD k r).length = k
  | 0, _ => rfl
  | k + 1, r => by rw [padD, List.length_append, padD_len k]; rfl
theorem dec_split : ∀ (k q r : Nat), 0 < q → r < 10 ^ k → Lib.decDigits (q * 10 ^ k + r) = Lib.decDigits q ++ padD k r
  | 0, q, r, _, h => by
    have : r = 0 := by simp at h; omega
    subst this
    simp [padD]
  | k + 1, q, r, h0, h => by
    have hp : 0 < 10 ^ k := Nat.pow_pos (by decide)
    have e : 10 ^ (k + 1) = 10 ^ k * 10 := Nat.pow_succ 10 k
    rw [e] at h ⊢
    have e2 : q * (10 ^ k * 10) = q * 10 ^ k * 10 := by rw [Nat.mul_assoc]
    have hq : 1 ≤ q * 10 ^ k := Nat.mul_pos h0 hp
    rw [e2]
    have ih := dec_split k q (r / 10) h0 (by omega)
    generalize 10 ^ k = X at *
    conv => lhs; rw [Lib.decDigits, dif_neg (by omega)]
    rw [show (q * X * 10 + r) / 10 = q * X + r / 10 by omega, show (q * X * 10 + r) % 10 = r % 10 by omega, ih, padD, List.append_assoc]
theorem padD_zero : ∀ k, padD k 0 = List.replicate k 48
  | 0 => rfl
  | k + 1 => by
    rw [padD, Nat.zero_div, padD_zero k, List.replicate_succ']
    rfl
theorem padD_eq : ∀ (k r : Nat), r < 10 ^ (k + 1) → padD (k + 1) r = List.replicate (k + 1 - Lib.nDigits r) 48 ++ Lib.decDigits r
  | 0, r, h => by
    have h' : r < 10 := by simpa using h
    rw [Lib.nDigits_small h', Lib.decDigits_one h']
    show [] ++ [UInt8.ofNat (48 + r % 10)] = _
    rw [Nat.mod_eq_of_lt h']
    rfl
  | k + 1, r, h => by
    rw [padD]
    by_cases h' : r < 10
    · rw [Lib.nDigits_small h', Lib.decDigits_one h', Nat.div_eq_of_lt h', padD_zero, Nat.mod_eq_of_lt h']
      rfl
    · have ih := padD_eq k (r / 10) (by rw [Nat.pow_succ] at h; omega)
      rw [ih, Lib.nDigits_big h', List.append_assoc]
      conv => rhs; rw [Lib.decDigits, dif_neg h']
      rw [show k + 1 + 1 - (Lib.nDigits (r / 10) + 1) = k + 1 - Lib.nDigits (r / 10) by omega]
theorem nd_le' : ∀ (k u : Nat), u < 10 ^ (k + 1) → Lib.nDigits u ≤ k + 1
  | 0, u, h => by rw [Lib.nDigits_small (by simpa using h)]; exact Nat.le_refl _
  | k + 1, u, h => by
    by_cases h1 : u < 10
    · rw [Lib.nDigits_small h1]; omega
    · rw [Lib.nDigits_big h1]
      have := nd_le' k (u / 10) (by rw [Nat.pow_succ] at h; omega)
      omega
/-- A chunk of 19 digits. -/
theorem chunk (q r : Nat) (h0 : 0 < q) (h : r < 10000000000000000000) : Lib.decDigits (q * 10000000000000000000 + r) = Lib.decDigits q ++ (List.replicate (19 - (Lib.decDigits r).length) 48 ++ Lib.decDigits r) := by
  have h1 : (10000000000000000000 : Nat) = 10 ^ 19 := by decide
  rw [h1] at h ⊢
  rw [dec_split 19 q r h0 h, padD_eq 18 r h, Lib.decDigits_length]
theorem chunk_len (r : Nat) (h : r < 10000000000000000000) : (Lib.decDigits r).length ≤ 19 ∧ 1 ≤ (Lib.decDigits r).length := by
  rw [Lib.decDigits_length]
  exact ⟨nd_le' 18 r (by have : (10 : Nat) ^ (18 + 1) = 10000000000000000000 := by decide
                         omega), Lib.nDigits_pos r⟩
end Go.Dg
namespace Go.Proofs
open Go.Shelf
def Tryz.lays284_ren : Go.Shelf.Ren := ⟨fun | 284 => 102 | 129 => 100 | 317 => 113 | 318 => 114 | n => n, fun | 53 => 22 | 3 => 3 | 212 => 149 | 0 => 0 | 4 => 4 | 46 => 79 | 5 => 5 | 9 => 9 | n => n, fun | 17 => 2 | n => n⟩
theorem Tryz.lays284 : Go.Proofs.LaysM.n284 Tryz.prog Tryz.lays284_ren := {
  mixed := by kernel_rfl
  f129 := Tryz.func100.trans (congrArg some (by kernel_rfl))
  f284 := Tryz.func102.trans (congrArg some (by kernel_rfl))
  f317 := Tryz.func113.trans (congrArg some (by kernel_rfl))
  f318 := Tryz.func114.trans (congrArg some (by kernel_rfl))
  t0 := Tryz.underlying0
  a0 := Tryz.isAgg0
  z0 := Tryz.sizeOf0
  v0 := Tryz.zeroValue0
  t3 := Tryz.underlying3
  a3 := Tryz.isAgg3
  z3 := Tryz.sizeOf3
  v3 := Tryz.zeroValue3
  t4 := Tryz.underlying4
  a4 := Tryz.isAgg4
  z4 := Tryz.sizeOf4
  v4 := Tryz.zeroValue4
  t5 := Tryz.underlying5
  a5 := Tryz.isAgg5
  z5 := Tryz.sizeOf5
  v5 := Tryz.zeroValue5
  t9 := Tryz.underlying9
  a9 := Tryz.isAgg9
  z9 := Tryz.sizeOf9
  v9 := Tryz.zeroValue9
  t46 := Tryz.underlying79
  a46 := Tryz.isAgg79
  z46 := Tryz.sizeOf79
  v46 := Tryz.zeroValue79
  t53 := Tryz.underlying22
  a53 := Tryz.isAgg22
  z53 := Tryz.sizeOf22
  v53 := Tryz.zeroValue22
  t212 := Tryz.underlying149
  a212 := Tryz.isAgg149
  z212 := Tryz.sizeOf149
  v212 := Tryz.zeroValue149
  g17 := by kernel_rfl
  i0 := by kernel_rfl
  i3 := by kernel_rfl
  i4 := by kernel_rfl
  i5 := by kernel_rfl
  i9 := by kernel_rfl
  i46 := by kernel_rfl
  i53 := by kernel_rfl
  i212 := by kernel_rfl
  m17 := by kernel_rfl }
def Tryz.lays285_ren : Go.Shelf.Ren := ⟨fun | 285 => 103 | n => n, fun | 37 => 114 | 53 => 22 | 3 => 3 | 4 => 4 | 51 => 26 | 9 => 9 | 5 => 5 | 0 => 0 | n => n, fun | n => n⟩
theorem Tryz.lays285 : Go.Proofs.Lays.n285 Tryz.prog Tryz.lays285_ren := {
  mixed := by kernel_rfl
  f285 := Tryz.func103.trans (congrArg some (by kernel_rfl))
  t0 := Tryz.underlying0
  a0 := Tryz.isAgg0
  z0 := Tryz.sizeOf0
  v0 := Tryz.zeroValue0
  t3 := Tryz.underlying3
  a3 := Tryz.isAgg3
  z3 := Tryz.sizeOf3
  v3 := Tryz.zeroValue3
  t4 := Tryz.underlying4
  a4 := Tryz.isAgg4
  z4 := Tryz.sizeOf4
  v4 := Tryz.zeroValue4
  t5 := Tryz.underlying5
  a5 := Tryz.isAgg5
  z5 := Tryz.sizeOf5
  v5 := Tryz.zeroValue5
  t9 := Tryz.underlying9
  a9 := Tryz.isAgg9
  z9 := Tryz.sizeOf9
  v9 := Tryz.zeroValue9
  t37 := Tryz.underlying114
  a37 := Tryz.isAgg114
  z37 := Tryz.sizeOf114
  v37 := Tryz.zeroValue114
  t51 := Tryz.underlying26
  a51 := Tryz.isAgg26
  z51 := Tryz.sizeOf26
  v51 := Tryz.zeroValue26
  t53 := Tryz.underlying22
  a53 := Tryz.isAgg22
  z53 := Tryz.sizeOf22
  v53 := Tryz.zeroValue22 }
def Tryz.lays283_ren : Go.Shelf.Ren := ⟨fun | 283 => 101 | n => n, fun | 3 => 3 | 9 => 9 | 4 => 4 | n => n, fun | n => n⟩
theorem Tryz.lays283 : Go.Proofs.Lays.n283 Tryz.prog Tryz.lays283_ren := {
  mixed := by kernel_rfl
  f283 := Tryz.func101.trans (congrArg some (by kernel_rfl))
  t3 := Tryz.underlying3
  a3 := Tryz.isAgg3
  z3 := Tryz.sizeOf3
  v3 := Tryz.zeroValue3
  t4 := Tryz.underlying4
  a4 := Tryz.isAgg4
  z4 := Tryz.sizeOf4
  v4 := Tryz.zeroValue4
  t9 := Tryz.underlying9
  a9 := Tryz.isAgg9
  z9 := Tryz.sizeOf9
  v9 := Tryz.zeroValue9 }
def Tryz.lays103_ren : Go.Shelf.Ren := ⟨fun | 103 => 29 | 210 => 53 | 206 => 79 | n => n, fun | 9 => 9 | 4 => 4 | 24 => 56 | 3 => 3 | n => n, fun | n => n⟩
theorem Tryz.lays103 : Go.Proofs.Lays.n103 Tryz.prog Tryz.lays103_ren := {
  mixed := by kernel_rfl
  f103 := Tryz.func29.trans (congrArg some (by kernel_rfl))
  f206 := Tryz.func79.trans (congrArg some (by kernel_rfl))
  f210 := Tryz.func53.trans (congrArg some (by kernel_rfl))
  t3 := Tryz.underlying3
  a3 := Tryz.isAgg3
  z3 := Tryz.sizeOf3
  v3 := Tryz.zeroValue3
  t4 := Tryz.underlying4
  a4 := Tryz.isAgg4
  z4 := Tryz.sizeOf4
  v4 := Tryz.zeroValue4
  t9 := Tryz.underlying9
  a9 := Tryz.isAgg9
  z9 := Tryz.sizeOf9
  v9 := Tryz.zeroValue9
  t24 := Tryz.underlying56
  a24 := Tryz.isAgg56
  z24 := Tryz.sizeOf56
  v24 := Tryz.zeroValue56 }
def Tryz.lays99_ren : Go.Shelf.Ren := ⟨fun | 99 => 86 | 206 => 79 | n => n, fun | 9 => 9 | 4 => 4 | 3 => 3 | n => n, fun | n => n⟩
theorem Tryz.lays99 : Go.Proofs.Lays.n99 Tryz.prog Tryz.lays99_ren := {
  mixed := by kernel_rfl
  f99 := Tryz.func86.trans (congrArg some (by kernel_rfl))
  f206 := Tryz.func79.trans (congrArg some (by kernel_rfl))
  t3 := Tryz.underlying3
  a3 := Tryz.isAgg3
  z3 := Tryz.sizeOf3
  v3 := Tryz.zeroValue3
  t4 := Tryz.underlying4
  a4 := Tryz.isAgg4
  z4 := Tryz.sizeOf4
  v4 := Tryz.zeroValue4
  t9 := Tryz.underlying9
  a9 := Tryz.isAgg9
  z9 := Tryz.sizeOf9
  v9 := Tryz.zeroValue9 }
end Go.Proofs
namespace Go.Proofs.YtaafimabgcnbaabGreatDoor
open Go Go.RowKit Go.Big Go.Sort Go.Lib
open Go.Shelf (Ren)
attribute [local instance] noAv
theorem tab_below {w w' : World} (h : Lib.TabIs Tryz.prog w "internal/strconv.uint64pow10" .u64 Lib.pow10Tab) (hb : Below w.heap.size w w') : Lib.TabIs Tryz.prog w' "internal/strconv.uint64pow10" .u64 Lib.pow10Tab :=
  Joins.tab_stays (g := 2) (by kernel_rfl) h hb (Nat.le_refl _)
theorem small_c (i : Nat) (h : i < 100) (w : World) :
    Calls Tryz.prog 101 #[.int .i64 i] w fun e w' => e = .returned (.string ⟨(Lib.decDigits i).toArray⟩) ∧ w' = w := Any.internal_strconv_small Tryz.lays283 i h w
theorem numDigits_c (u : Nat) (h1 : 1 ≤ u) (h2 : u < 18446744073709551616) (w : World) (htab : Lib.TabIs Tryz.prog w "internal/strconv.uint64pow10" .u64 Lib.pow10Tab) :
    Calls Tryz.prog 102 #[.int .u64 u] w fun e w' => e = .returned (.int .i64 (Lib.nDigits u)) ∧ w' = w := Any.internal_strconv_numDigits Tryz.lays284 u h1 h2 w htab
theorem format10_c (blk off cap : Nat) (u : Nat) (d : Array UInt8) (w : World) (hH : Holds (fun (b : UInt8) => Value.int .u8 (b.toNat : Int)) w blk off d) (hu : u < 10 ^ d.size) (hu64 : u < 18446744073709551616) (hsz : d.size < 4611686018427387904) :
    Calls Tryz.prog 103 #[.slice (some ⟨blk, off, none⟩) d.size cap, .int .u64 u] w fun e w' =>
      e = .returned (.tuple #[]) ∧ ∃ (n v' : Nat) (dk : Array UInt8), w' = (putRow (fun (b : UInt8) => Value.int .u8 (b.toNat : Int)) w blk off dk).drewN n ∧ FmtInv d.size u 0 v' dk := Any.internal_strconv_formatBase10 Tryz.lays285 blk off cap u d w hH hu hu64 hsz
set_option maxHeartbeats 1600000 in
set_option maxRecDepth 100000 in
theorem formatI_small {w : World} (u : Nat) (hu : u < 100) : Calls Tryz.prog 84 #[.int .u64 u, .int .i64 10] w (Gets (fun _ r => r = .string ⟨(Lib.decDigits u).toArray⟩) w) := by
  have hu' : (u : Int) < 100 := by omega
  go_enter Tryz.func84, Tryz.ntmps84
  go_wp2_with (go_at_call 101; refine (small_c u hu _).mono ?_; rintro e w' ⟨rfl, rfl⟩)
  go_ret
  exact ⟨_, rfl, rfl, Below.refl _ _⟩
set_option maxHeartbeats 3200000 in
set_option maxRecDepth 100000 in
theorem formatI_big {w : World} (u : Nat) (hu : 100 ≤ u) (hu64 : u < 18446744073709551616) (htab : Lib.TabIs Tryz.prog w "internal/strconv.uint64pow10" .u64 Lib.pow10Tab) : Calls Tryz.prog 84 #[.int .u64 u, .int .i64 10] w (Gets (fun _ r => r = .string ⟨(Lib.decDigits u).toArray⟩) w) := by
  have hu1 : 1 ≤ u := by omega
  have hnd20 : Lib.nDigits u ≤ 20 := by have := Lib.numDigits_eq u hu1 hu64; split at this <;> omega
  have hal : Tryz.prog.arrayLen 135 = 24 := by kernel_rfl
  have hsl : ∀ W, (Instr.sliceAt 135 (.pointer (some ⟨w.heap.size, 0, none⟩)) none (some (.int .i64 (Lib.nDigits u : Int))) none).run Tryz.prog W = .ok (.slice (some ⟨w.heap.size, 0, none⟩) (Lib.nDigits u) 24) W := fun W => by
    rw [run_sliceAt_array_h W 135 ⟨w.heap.size, 0, none⟩ (by kernel_rfl) .i64 (Lib.nDigits u : Int) (by omega) (by rw [hal]; omega)]
    rw [hal, show Tryz.prog.elem 135 = 5 by kernel_rfl]
    go_simp
  have hH0 := Lib.holds_zero0 w 135 (Lib.nDigits u) (by omega)
  have hfmt := format10_c w.heap.size 0 24 u (Array.replicate (Lib.nDigits u) 0) (w.alloc (.cells Lib.zeros24 135)) hH0 (by rw [Array.size_replicate]; exact Lib.lt_pow_nDigits u) hu64 (by rw [Array.size_replicate]; omega)
  rw [Array.size_replicate] at hfmt
  have HH0 := Lib.hid hH0
  have hND := fun W (h : Lib.TabIs Tryz.prog W "internal/strconv.uint64pow10" .u64 Lib.pow10Tab) => numDigits_c u hu1 hu64 W h
  have ht1 := tab_below htab ((Below.refl _ w).alloc (Nat.le_refl _) (.cells Lib.zeros24 135))
  have iu : ¬ (u : Int) < 100 := by omega
  have hb3 : Lib.nDigits u ≤ 23 := by omega
  clear hH0 hal hu1 htab
  go_enter Tryz.func84, Tryz.ntmps84
  go_wp2_with (first
    | (go_at_call 102; refine (hND _ ht1).mono ?_; rintro e w' ⟨rfl, rfl⟩))
  go_at_call 103
  refine hfmt.mono ?_
  rintro e w' ⟨rfl, k, v', dk, rfl, hF⟩
  obtain ⟨os, eo⟩ := Lib.fin_at w (.cells Lib.zeros24 135) dk k 0
  have hbl : Below w.heap.size w ((putRow (fun (b : UInt8) => Value.int .u8 (b.toNat : Int)) (w.alloc (.cells Lib.zeros24 135)) w.heap.size 0 dk).drewN k) := by rw [eo]; exact Lib.below_grow w.heap.size w (Nat.le_refl _) k os
  have hcv : (convert 114 9 (.slice (some ⟨w.heap.size, 0, none⟩) (Lib.nDigits u) 24)).run Tryz.prog ((putRow (fun (b : UInt8) => Value.int .u8 (b.toNat : Int)) (w.alloc (.cells Lib.zeros24 135)) w.heap.size 0 dk).drewN k) = .ok (.string ⟨(Lib.decDigits u).toArray⟩) ((putRow (fun (b : UInt8) => Value.int .u8 (b.toNat : Int)) (w.alloc (.cells Lib.zeros24 135)) w.heap.size 0 dk).drewN k) := by
    have h := run_convert_bytes_back (P := Tryz.prog) ((putRow (fun (b : UInt8) => Value.int .u8 (b.toNat : Int)) (w.alloc (.cells Lib.zeros24 135)) w.heap.size 0 dk).drewN k) 114 9 5 ⟨w.heap.size, 0, none⟩ 24 (Lib.decDigits u) Tryz.underlying114 Tryz.underlying5 Tryz.underlying9 (fun j hj => by
      rw [Lib.row_is_numeral hF j hj, Lib.add_plain, World.cell?_drewN]
      exact cell?_putRow (fun (b : UInt8) => Value.int .u8 (b.toNat : Int)) _ w.heap.size 0 _ dk HH0.out (by rw [hF.size, Array.size_replicate]) j (by rw [hF.size]; rw [Lib.decDigits_length] at hj; exact hj))
    rw [Lib.decDigits_length] at h
    exact h
  generalize (putRow (fun (b : UInt8) => Value.int .u8 (b.toNat : Int)) (w.alloc (.cells Lib.zeros24 135)) w.heap.size 0 dk).drewN k = W2 at hbl hcv ⊢
  clear eo HH0 hfmt hF
  go_wp2
  go_ret
  exact ⟨_, rfl, rfl, hbl⟩
theorem formatU_c {w : World} (u : Nat) (hu64 : u < 18446744073709551616) (htab : Lib.TabIs Tryz.prog w "internal/strconv.uint64pow10" .u64 Lib.pow10Tab) : Calls Tryz.prog 57 #[.int .u64 u, .int .i64 10] w (Gets (fun _ r => r = .string ⟨(Lib.decDigits u).toArray⟩) w) := by
  have H : Calls Tryz.prog 84 #[.int .u64 u, .int .i64 10] w (Gets (fun _ r => r = .string ⟨(Lib.decDigits u).toArray⟩) w) := by
    rcases Nat.lt_or_ge u 100 with h | h
    · exact formatI_small u h
    · exact formatI_big u h hu64 htab
  go_enter Tryz.func57, Tryz.ntmps57
  go_wp2_with (go_at_call 84; refine H.mono ?_; rintro e w' ⟨r, rfl, rfl, hb⟩)
  go_ret
  exact ⟨_, rfl, rfl, hb⟩
end Go.Proofs.YtaafimabgcnbaabGreatDoor
namespace Go.Proofs.YtaafimabgcnbaabGreatDoor
open Go Go.RowKit Go.Big
attribute [local instance] noAv
set_option maxHeartbeats 1600000 in
set_option maxRecDepth 100000 in
theorem mulU_c (c : Nat) (hc : c ≤ 18) (w : World) : Calls Tryz.prog 85 #[.int .u64 1, .int .u64 c] w fun e w' => e = .returned (.tuple #[.int .u64 0, .int .u64 c]) ∧ w' = w := by
  have H := mul64_c (x := 1) (y := (c : Int)) (by omega) (by omega) w
  rw [Int.one_mul, show (c : Int) / 18446744073709551616 = 0 by omega, show (c : Int) % 18446744073709551616 = c by omega] at H
  go_enter Tryz.func85, Tryz.ntmps85
  go_wp2_with (go_at_call 80; refine H.mono ?_; rintro e w' ⟨rfl, rfl⟩)
  go_ret2
  exact ⟨rfl, rfl⟩
theorem hasPrefix_c (s p : ByteArray) (w : World) (b : Bool) (hb : Lib.hasPrefix s.data.toList p.data.toList = b) : Calls Tryz.prog 86 #[.string s, .string p] w fun e w' => e = .returned (.bool b) ∧ w' = w := by
  subst hb; exact Any.strings_HasPrefix Tryz.lays99 s p w
theorem zeros_ext : ∀ c : Fin 19, (({ data := #[48, 48, 48, 48, 48, 48, 48, 48, 48, 48, 48, 48, 48, 48, 48, 48, 48, 48, 48, 48, 48, 48, 48, 48, 48, 48, 48, 48, 48, 48, 48, 48, 48, 48, 48, 48, 48, 48, 48, 48, 48, 48, 48, 48, 48, 48, 48, 48, 48, 48, 48, 48, 48, 48, 48, 48, 48, 48, 48, 48, 48, 48, 48, 48] } : ByteArray).extract 0 c.val) = ⟨(List.replicate c.val 48).toArray⟩ := by decide +kernel
set_option maxHeartbeats 1600000 in
set_option maxRecDepth 100000 in
theorem repeat_main {w : World} (c : Nat) (h2 : 2 ≤ c) (hc : c ≤ 18) : Calls Tryz.prog 59 #[.string ⟨#[48]⟩, .int .i64 c] w (Gets (fun _ r => r = .string ⟨(List.replicate c 48).toArray⟩) w) := by
  have hM := mulU_c c hc w
  have n0 : ((c : Int) == 0) = false := beq_eq_false_iff_ne.2 (by omega)
  have n1 : ((c : Int) == 1) = false := beq_eq_false_iff_ne.2 (by omega)
  have n3 : (c : Int) ≤ 64 := by omega
  have n4 : (c : Int) ≤ 128 := by omega
  go_enter Tryz.func59, Tryz.ntmps59
  go_wp2_with (first
    | (go_at_call 85; refine (hM).mono ?_; rintro e w' ⟨rfl, rfl⟩)
    | (go_at_call 86; refine (hasPrefix_c _ _ _ false (by decide +kernel)).mono ?_; rintro e w' ⟨rfl, rfl⟩)
    | (go_at_call 86; refine (hasPrefix_c _ _ _ true (by decide +kernel)).mono ?_; rintro e w' ⟨rfl, rfl⟩))
  go_ret
  exact ⟨_, rfl, congrArg Value.string (zeros_ext ⟨c, by omega⟩), Below.refl _ _⟩
set_option maxHeartbeats 1600000 in
set_option maxRecDepth 100000 in
theorem repeat_c {w : World} (c : Nat) (hc : c ≤ 18) : Calls Tryz.prog 59 #[.string ⟨#[48]⟩, .int .i64 c] w (Gets (fun _ r => r = .string ⟨(List.replicate c 48).toArray⟩) w) := by
  match c, hc with
  | 0, _ =>
    go_enter Tryz.func59, Tryz.ntmps59
    go_wp2
    go_ret
    exact ⟨_, rfl, rfl, Below.refl _ _⟩
  | 1, _ =>
    go_enter Tryz.func59, Tryz.ntmps59
    go_wp2
    go_ret
    exact ⟨_, rfl, rfl, Below.refl _ _⟩
  | k + 2, hk => exact repeat_main (k + 2) (by omega) hk
end Go.Proofs.YtaafimabgcnbaabGreatDoor
