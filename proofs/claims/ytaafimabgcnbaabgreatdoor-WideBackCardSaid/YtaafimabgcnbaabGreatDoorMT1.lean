/-
  The reference's Digits: the decimal text of a number of any length.
  The reference's Right: whether a text is that of an integer.
  The reference's Value: the integer of a text that is one.
  The reference's Text, for every wide integer.
  isNumeral, for every text.
  The reference's Parse, for every text.
-/
import Derived.Test.YtaafimabgcnbaabGreatDoorMYY
import Derived.Test.YtaafimabgcnbaabGreatDoorMK
import Derived.Lib.ItoaNum
import Derived.Laws.BytesArg
import Derived.Test.YtaafimabgcnbaabGreatDoorML
import Derived.Test.YtaafimabgcnbaabGreatDoorMN
import Derived.Test.YtaafimabgcnbaabGreatDoorMR
import Derived.Laws.RangeAny
import Derived.Test.YtaafimabgcnbaabGreatDoorMQ
set_option linter.all false
namespace Go.Proofs.YtaafimabgcnbaabGreatDoor
open Go Go.RowKit Go.Big
attribute [local instance] noAv
def numAt (w : World) (b o j : Nat) : Int := match w.cell? ⟨b, o + j, none⟩ with
  | some (.int _ x) => x
  | _ => 0
def rowInts (w : World) : Value → List Int
  | .slice (some ⟨b, o, none⟩) n _ => (List.range n).map (numAt w b o)
  | _ => []
theorem row_ints {w : World} {v : Value} {xs : List Int} (h : RowK .i64 w v xs) : rowInts w v = xs := by
  rcases h with ⟨rfl, rfl, -⟩ | ⟨b, o, cap, rfl, -, -, h4, -⟩
  · rfl
  · apply List.ext_getElem
    · simp [rowInts]
    · intro i h1 h2
      simp only [rowInts, List.getElem_map, List.getElem_range, numAt]
      rw [h4 i h2]
      simp [List.getD, h2]
/-- The digits of n that are still to come, and those that stand. -/
def decT (n : Nat) (o : List UInt8) : List UInt8 := if n = 0 then o else Lib.decDigits n ++ o
theorem decT_step {n : Nat} (h : 0 < n) (o : List UInt8) : decT (n / 10) (UInt8.ofNat (48 + n % 10) :: o) = decT n o := by
  unfold decT
  rw [if_neg (show ¬ n = 0 by omega)]
  by_cases h1 : n < 10
  · rw [if_pos (by omega), Lib.decDigits_one h1, Nat.mod_eq_of_lt h1]; rfl
  · rw [if_neg (by omega)]
    conv => rhs; rw [Lib.decDigits, dif_neg h1]
    simp
theorem conv_one (c : Int) (W : World) : (convert 114 9 (.slice (some ⟨W.heap.size, 0, none⟩) 1 1)).run Tryz.prog (W.alloc (.cells #[.int .u8 c] 5)) = .ok (.string ⟨#[UInt8.ofNat c.toNat]⟩) (W.alloc (.cells #[.int .u8 c] 5)) := by
  rw [run_convert_bytes_arg (W.alloc (.cells #[.int .u8 c] 5)) 114 5 Tryz.underlying114 Tryz.underlying5 W.heap.size 0 1 1 [c] rfl (fun i hi => by
    obtain rfl : i = 0 := by omega
    exact (cellOf (MapKept.heap_alloc W (.cells #[.int .u8 c] 5)).1).trans rfl) 9 Tryz.underlying9]
  rfl
theorem str_cons (x : UInt8) (o : List UInt8) : Value.string (({ data := #[x] } : ByteArray) ++ { data := o.toArray }) = .string ⟨(x :: o).toArray⟩ := by
  congr 1
theorem nd_le : ∀ (k u : Nat), 0 < k → u < 10 ^ k → Lib.nDigits u ≤ k
  | 0, _, h, _ => absurd h (Nat.lt_irrefl _)
  | k + 1, u, _, h => by
    by_cases h1 : u < 10
    · rw [Lib.nDigits_small h1]; omega
    · rw [Lib.nDigits_big h1]
      rcases Nat.eq_zero_or_pos k with rfl | hk
      · simp at h; omega
      · have := nd_le k (u / 10) hk (by rw [Nat.pow_succ] at h; omega)
        omega
theorem ten617 : pw 64 < ((10 ^ 617 : Nat) : Int) := by decide +kernel
theorem dec_le {N : Nat} (h : (N : Int) < pw 64) : (decT N []).length ≤ 617 := by
  unfold decT
  split
  · simp
  · rw [List.append_nil, Lib.decDigits_length]
    have := ten617
    exact nd_le 617 N (by decide) (by omega)
theorem decT_len (n : Nat) (o : List UInt8) : o.length ≤ (decT n o).length := by
  unfold decT
  split
  · exact Nat.le_refl _
  · rw [List.length_append]; omega
theorem good_ten : good [10] := fun x hx => by simp at hx; omega
theorem norm_ten : norm [10] := fun _ => by decide
structure DgI (w1 : World) (N : Nat) (d : Value) (wr : World) (o : List UInt8) (xs : List Int) (n : Nat) : Prop where
  r : RowK .i64 wr d xs
  g : good xs
  nm : norm xs
  s : xs.length ≤ 64
  v : val xs = n
  t : decT n o = decT N []
  bel : Below w1.heap.size w1 wr
def DgRel (w1 : World) (N : Nat) (out d : Value) (wr : World) : Prop := ∃ o xs n, out = .string ⟨o.toArray⟩ ∧ DgI w1 N d wr o xs n
end Go.Proofs.YtaafimabgcnbaabGreatDoor
namespace Go.Proofs.YtaafimabgcnbaabGreatDoor
open Go Go.RowKit Go.Big
attribute [local instance] noAv
/-- The octets from i on are decimal digits. -/
def digFrom (s : ByteArray) (i : Nat) : Prop := ∀ j (h : j < s.size), i ≤ j → 48 ≤ (s[j]'h).toNat ∧ (s[j]'h).toNat ≤ 57
/-- Where the digits begin. -/
def signAt (s : ByteArray) : Nat := if h : 0 < s.size then (if (s[0]'h).toNat = 45 then 1 else 0) else 0
def RightP (s : ByteArray) : Prop := ∃ h : signAt s < s.size, ¬ ((s[signAt s]'h).toNat = 48 ∧ 1 < s.size) ∧ digFrom s (signAt s)
theorem digFrom_step {s : ByteArray} {i : Nat} (h : i < s.size) (h0 : 48 ≤ (s[i]'h).toNat) (h1 : (s[i]'h).toNat ≤ 57) (h2 : digFrom s (i + 1)) : digFrom s i := fun j hj hij => by
  by_cases e : j = i
  · subst e; exact ⟨h0, h1⟩
  · exact h2 j hj (by omega)
end Go.Proofs.YtaafimabgcnbaabGreatDoor
namespace Go.Proofs.YtaafimabgcnbaabGreatDoor
open Go Go.RowKit Go.Big
attribute [local instance] noAv
/-- What the first k octets stand for; a '-' counts nothing. -/
def numV (s : ByteArray) : Nat → Nat
  | 0 => 0
  | k + 1 => if h : k < s.size then (if (s[k]'h).toNat = 45 then numV s k else numV s k * 10 + ((s[k]'h).toNat - 48)) else numV s k
/-- Octets that are digits or '-'. -/
def numOk (s : ByteArray) : Prop := ∀ j (h : j < s.size), (s[j]'h).toNat = 45 ∨ (48 ≤ (s[j]'h).toNat ∧ (s[j]'h).toNat ≤ 57)
theorem numV_lt {s : ByteArray} (h : numOk s) : ∀ k, numV s k < 10 ^ k
  | 0 => by show 0 < 1; decide
  | k + 1 => by
    have ih := numV_lt h k
    unfold numV
    rw [Nat.pow_succ]
    split
    · rename_i hk
      split
      · omega
      · have := h k hk; omega
    · omega
theorem ten200 : ((10 ^ 202 : Nat) : Int) < pw 64 := by decide +kernel
theorem small_num {s : ByteArray} (h : numOk s) {k : Nat} (hk : k ≤ 202) : small ((numV s k : Nat) : Int) := by
  have h1 := numV_lt h k
  have h2 := Nat.pow_le_pow_right (show 0 < 10 by decide) hk
  have h3 := ten200
  unfold small
  omega
theorem below_al {w0 W : World} (h : Below w0.heap.size w0 W) (o : Obj) : Below w0.heap.size w0 (W.alloc o) := h.alloc h.size o
theorem next0' {w0 W W' : World} (h : Below w0.heap.size w0 W) (hb : Below W.heap.size W W') : Below w0.heap.size w0 W' := h.trans (hb.mono h.size)
theorem carry {W w' : World} {z : Obj} {B : Nat} (h : W.heap[B]? = some z) (hb : Below W.heap.size W w') : w'.heap[B]? = some z :=
  (hb.block B (Array.getElem?_eq_some_iff.1 h).1).trans h
theorem cells2 {W : World} {B : Nat} {p s : Value} {t : TypeId} (k : W.heap[B]? = some (.cells #[p, s] t)) : W.cell? ⟨B, 0, none⟩ = some p ∧ W.cell? ⟨B, 1, none⟩ = some s ∧ W.frozen? ⟨B, 0, none⟩ = false ∧ W.frozen? ⟨B, 1, none⟩ = false :=
  ⟨cellOf k, cellOf k, frozenOf k, frozenOf k⟩
theorem set2_heap {W : World} {B : Nat} {t : TypeId} {z0 z1 : Value} (k : W.heap[B]? = some (.cells #[z0, z1] t)) (u0 u1 : Value) : ((W.setCell ⟨B, 0, none⟩ u0).setCell ⟨B, 1, none⟩ u1).heap[B]? = some (.cells #[u0, u1] t) := by
  have h0 : (W.setCell ⟨B, 0, none⟩ u0).heap[B]? = some (.cells #[u0, z1] t) := heap_setCell_same _ B 0 _ t u0 k
  exact heap_setCell_same _ B 1 _ t u1 h0
theorem set2_other {W : World} {B C : Nat} (h : C ≠ B) (u0 u1 : Value) : ((W.setCell ⟨B, 0, none⟩ u0).setCell ⟨B, 1, none⟩ u1).heap[C]? = W.heap[C]? := by
  rw [Go.Deep.blk_setCell_other _ _ _ _ h, Go.Deep.blk_setCell_other _ _ _ _ h]
structure VaI (w : World) (z : Int) (b : Bool) (v : Value) (wr : World) : Prop where
  lv : LongV wr (.agg #[.bool b, v]) z
  k3 : wr.heap[w.heap.size + 1]? = some (.cells #[.bool b, v] 69)
  bel : Below w.heap.size w wr
  k2 : wr.heap[w.heap.size]? = some (.cells #[.bool false, .slice none 0 0] 69)
theorem long_nil (w : World) : LongV w (.agg #[.bool false, .slice none 0 0]) 0 := ⟨false, _, [], rfl, (RowK.nil fun _ h => h.elim), good_nil, (fun h => absurd h (Nat.lt_irrefl _)), (fun h => absurd h (by decide)), rfl⟩
end Go.Proofs.YtaafimabgcnbaabGreatDoor
namespace Go.Proofs.YtaafimabgcnbaabGreatDoor
open Go Go.Rx Go.RowKit Go.Big
attribute [local instance] noAv
end Go.Proofs.YtaafimabgcnbaabGreatDoor
namespace Go.Proofs.YtaafimabgcnbaabGreatDoor
open Go Go.Rx Go.RowKit Go.Big
attribute [local instance] noAv
theorem empty_of (s : ByteArray) : s.toList.isEmpty = decide (s.size = 0) := by
  rw [ByteArray.toList_eq]
  show s.data.toList.isEmpty = decide (s.data.size = 0)
  rcases s with ⟨⟨l⟩⟩
  cases l <;> simp
theorem is_zero (s : ByteArray) (h : 0 < s.size) (h1 : (s[0]'h).toNat = 48) (h2 : s.size = 1) : (s.toList == [48]) = true := by
  rw [ByteArray.toList_eq]
  rcases s with ⟨⟨l⟩⟩
  match l, h, h1, h2 with
  | [x], h, h1, h2 =>
    have h3 : x.toNat = 48 := h1
    have h4 : x = 48 := UInt8.toNat_inj.1 h3
    simp [h4]
theorem no_zero (s : ByteArray) (hn : ¬ ∃ h : 0 < s.size, (s[0]'h).toNat = 48 ∧ s.size = 1) : (s.toList == [48]) = false := by
  rw [ByteArray.toList_eq]
  rcases s with ⟨⟨l⟩⟩
  refine beq_eq_false_iff_ne.2 fun e => hn ?_
  have e' : l = [48] := e
  subst e'
  exact ⟨Nat.zero_lt_one, rfl, rfl⟩
theorem below_iter {w : World} (s : ByteArray) (pos : Nat) : Below w.heap.size w (w.iter s pos) := below_al (Below.refl _ _) _
set_option maxHeartbeats 1600000 in
set_option maxRecDepth 100000 in
theorem numeral_c {w : World} (s : ByteArray) (hs : s.size ≤ 1000000) :
    Calls Tryz.prog 30 #[.string s] w (Gets (fun _ r => ∃ b, r = .bool b ∧ (b = true ↔ digFrom s 0 ∧ ∃ h : 0 < s.size, ¬ ((s[0]'h).toNat = 48 ∧ 1 < s.size))) w) := by
  go_enter Tryz.func30, Tryz.ntmps30
  go_wp2
  go_loopw [4] (fun _ wr => ∃ pos : Nat, wr = w.iter s pos ∧ (digFrom s pos → digFrom s 0)) (fun _ w' => s.size - w'.iterPos w.heap.size)
  case atStart => exact ⟨0, rfl, id⟩
  case round =>
    obtain ⟨pos, rfl, hall⟩ := hrel
    by_cases hp : pos < s.size
    · have hnx : ∀ ty, (Instr.next (.pointer (some ⟨w.heap.size, 0, none⟩)) true ty).run Tryz.prog (w.iter s pos) = _ := fun ty => run_next_any w s pos ty hp
      by_cases hlo : (Utf8.decode s pos).1 < 48
      · have hno : ¬ digFrom s 0 := fun h => by
          have h1 := h pos hp (Nat.zero_le _)
          rw [decode_ascii s pos hp (by omega)] at hlo
          have h2 : (s[pos]'hp).toNat < 48 := hlo
          omega
        have hlo' : (((Utf8.decode s pos).1 : Nat) : Int) < 48 := by omega
        clear hall
        go_wp2
        go_ret
        first | exact ⟨_, rfl, ⟨_, rfl, by simp [hno]⟩, below_iter s _⟩ | exact ⟨_, rfl, rfl, below_iter s _⟩
      · by_cases hhi : 57 < (Utf8.decode s pos).1
        · have hno : ¬ digFrom s 0 := fun h => by
            have h1 := h pos hp (Nat.zero_le _)
            rw [decode_ascii s pos hp (by omega)] at hhi
            have h2 : 57 < (s[pos]'hp).toNat := hhi
            omega
          have hlo' : ¬ (((Utf8.decode s pos).1 : Nat) : Int) < 48 := by omega
          have hhi' : 57 < (((Utf8.decode s pos).1 : Nat) : Int) := by omega
          clear hall hlo
          go_wp2
          go_ret
          first | exact ⟨_, rfl, ⟨_, rfl, by simp [hno]⟩, below_iter s _⟩ | exact ⟨_, rfl, rfl, below_iter s _⟩
        · have ha : (s[pos]'hp).toNat < 128 := by
            refine Decidable.byContradiction fun h => ?_
            have := (decode_high s pos hp (by omega)).1
            omega
          have hd := decode_ascii s pos hp ha
          rw [hd] at hlo hhi hnx
          have hlo2 : ¬ (s[pos]'hp).toNat < 48 := hlo
          have hhi2 : ¬ 57 < (s[pos]'hp).toNat := hhi
          have hlo' : ¬ (((s[pos]'hp).toNat : Nat) : Int) < 48 := by omega
          have hhi' : ¬ 57 < (((s[pos]'hp).toNat : Nat) : Int) := by omega
          have hst := fun h => hall (digFrom_step hp (by omega) (by omega) h)
          clear hall hlo hhi hlo2 hhi2 hd
          go_wp2
          go_roundw
          case rel => exact ⟨pos + 1, rfl, hst⟩
          case measure => simp; omega
    · have hnx : ∀ ty, (Instr.next (.pointer (some ⟨w.heap.size, 0, none⟩)) true ty).run Tryz.prog (w.iter s pos) = _ := fun ty => run_next_end w s pos ty hp
      have hyes : digFrom s 0 := hall (fun j hj hij => by omega)
      clear hall
      have e2 := empty_of s
      by_cases h0 : 0 < s.size
      · have h0' : (0 : Int) < (s.size : Int) := by omega
        rw [decide_eq_false (by omega)] at e2
        by_cases h48 : (s[0]'h0).toNat = 48
        · by_cases h1 : s.size = 1
          · have e1 := is_zero s h0 h48 h1
            have hr : ∃ h : 0 < s.size, ¬ ((s[0]'h).toNat = 48 ∧ 1 < s.size) := ⟨h0, fun h => by omega⟩
            clear e2 h0' h48 h1
            go_wp2
            go_ret
            exact ⟨_, rfl, ⟨_, rfl, iff_of_true rfl ⟨hyes, hr⟩⟩, below_iter s _⟩
          · have e1 := no_zero s (fun ⟨_, _, h⟩ => h1 h)
            have e3 : (((s[0]'h0).toNat : Int) != 48) = false := by simp [h48]
            have hr : ¬ ∃ h : 0 < s.size, ¬ ((s[0]'h).toNat = 48 ∧ 1 < s.size) := fun ⟨_, h⟩ => h ⟨h48, by omega⟩
            clear h48 h1
            go_wp2
            go_ret
            exact ⟨_, rfl, ⟨_, rfl, iff_of_false (fun h => by simp at h) fun h => hr h.2⟩, below_iter s _⟩
        · have e1 := no_zero s (fun ⟨_, h, _⟩ => h48 h)
          have e3 : (((s[0]'h0).toNat : Int) != 48) = true := by
            refine bne_iff_ne.2 ?_
            omega
          have hr : ∃ h : 0 < s.size, ¬ ((s[0]'h).toNat = 48 ∧ 1 < s.size) := ⟨h0, fun h => h48 h.1⟩
          clear h48
          go_wp2
          go_ret
          exact ⟨_, rfl, ⟨_, rfl, iff_of_true rfl ⟨hyes, hr⟩⟩, below_iter s _⟩
      · rw [decide_eq_true (by omega)] at e2
        have e1 := no_zero s (fun ⟨h, _, _⟩ => h0 h)
        have hr : ¬ ∃ h : 0 < s.size, ¬ ((s[0]'h).toNat = 48 ∧ 1 < s.size) := fun ⟨h, _⟩ => h0 h
        go_wp2
        go_ret
        exact ⟨_, rfl, ⟨_, rfl, iff_of_false (fun h => by simp at h) fun h => hr h.2⟩, below_iter s _⟩
end Go.Proofs.YtaafimabgcnbaabGreatDoor
namespace Go.Proofs.YtaafimabgcnbaabGreatDoor
open Go Go.Rx Go.RowKit Go.Big
attribute [local instance] noAv
/-- The text is that of an integer. -/
def RightD (s : ByteArray) : Prop := ∃ h : signAt s < s.size, ¬ ((s[signAt s]'h).toNat = 48 ∧ 1 < s.size) ∧ digFrom s (signAt s)
theorem right_num {s : ByteArray} (h : RightD s) : 0 < s.size ∧ numOk s := by
  obtain ⟨h1, -, h3⟩ := h
  refine ⟨by omega, fun j hj => ?_⟩
  by_cases hj0 : signAt s ≤ j
  · exact .inr (h3 j hj hj0)
  · have h0 : 0 < s.size := by omega
    have hs1 : signAt s = 1 ∧ (s[0]'h0).toNat = 45 := by
      unfold signAt at hj0 ⊢
      rw [dif_pos h0] at hj0 ⊢
      by_cases h45 : (s[0]'h0).toNat = 45
      · rw [if_pos h45]; exact ⟨rfl, h45⟩
      · rw [if_neg h45] at hj0; omega
    obtain rfl : j = 0 := by omega
    exact .inl hs1.2
theorem W0_eight : W 0 = .agg #[.int .u64 0, .int .u64 0, .int .u64 0, .int .u64 0, .int .u64 0, .int .u64 0, .int .u64 0, .int .u64 0] := by kernel_rfl
/-- What the text stands for. -/
def textZ (s : ByteArray) (h0 : 0 < s.size) : Int := sgz ((s[0]'h0).toNat == 45) ((numV s s.size : Nat) : Int)
end Go.Proofs.YtaafimabgcnbaabGreatDoor
