/-
  The reference's Digits: the decimal text of a number of any length.
  The reference's Right: whether a text is that of an integer.
  The reference's Value: the integer of a text that is one.
  The reference's Text, for every wide integer.
  isNumeral, for every text.
  The reference's Parse, for every text.
-/
import Derived.Test.YtaafimabgcnbaaaGreatDoorMYY
import Derived.Test.YtaafimabgcnbaaaGreatDoorMK
import Derived.Lib.ItoaNum
import Derived.Laws.BytesArg
import Derived.Test.YtaafimabgcnbaaaGreatDoorML
import Derived.Test.YtaafimabgcnbaaaGreatDoorMN
import Derived.Test.YtaafimabgcnbaaaGreatDoorMR
import Derived.Laws.RangeAny
import Derived.Test.YtaafimabgcnbaaaGreatDoorMQ
set_option linter.all false
namespace Go.Proofs.YtaafimabgcnbaaaGreatDoor
open Go Go.RowKit Go.Big
attribute [local instance] noAv
theorem parts_all {w : World} {v u : Value} {xs ys : List Int} (h1 : RowK .i64 w v xs) (h2 : RowK .i64 w u ys) (g1 : good xs) (g2 : good ys) (n1 : norm xs) (n2 : norm ys) (s1 : xs.length ≤ 1000) (s2 : ys.length ≤ 1000) (h0 : 0 < ys.length) :
    Calls Tryz.prog 59 #[v, u] w (Gets (PartsV (val xs) (val ys)) w) := by
  rcases Nat.lt_or_ge xs.length ys.length with h | h
  · exact parts_small h1 h2 g1 g2 n1 n2 s2 h
  · exact parts_big h1 h2 g1 g2 n1 n2 s1 s2 h0 h
def numAt (w : World) (b o j : Nat) : Int := match w.cell? ⟨b, o + j, none⟩ with
  | some (.int _ x) => x
  | _ => 0
def rowInts (w : World) : Value → List Int
  | .slice (some ⟨b, o, none⟩) n _ => (List.range n).map (numAt w b o)
  | _ => []
theorem row_ints {w : World} {v : Value} {xs : List Int} (h : RowK .i64 w v xs) : rowInts w v = xs := by
  rcases h with ⟨rfl, rfl, -⟩ | ⟨b, o, cap, rfl, -, -, h4, -⟩
  · rfl
  · apply List.ext_getElem
    · simp [rowInts]
    · intro i h1 h2
      simp only [rowInts, List.getElem_map, List.getElem_range, numAt]
      rw [h4 i h2]
      simp [List.getD, h2]
/-- The digits of n that are still to come, and those that stand. -/
def decT (n : Nat) (o : List UInt8) : List UInt8 := if n = 0 then o else Lib.decDigits n ++ o
theorem decT_step {n : Nat} (h : 0 < n) (o : List UInt8) : decT (n / 10) (UInt8.ofNat (48 + n % 10) :: o) = decT n o := by
  unfold decT
  rw [if_neg (show ¬ n = 0 by omega)]
  by_cases h1 : n < 10
  · rw [if_pos (by omega), Lib.decDigits_one h1, Nat.mod_eq_of_lt h1]; rfl
  · rw [if_neg (by omega)]
    conv => rhs; rw [Lib.decDigits, dif_neg h1]
    simp
theorem conv_one (c : Int) (W : World) : (convert 36 9 (.slice (some ⟨W.heap.size, 0, none⟩) 1 1)).run Tryz.prog (W.alloc (.cells #[.int .u8 c] 5)) = .ok (.string ⟨#[UInt8.ofNat c.toNat]⟩) (W.alloc (.cells #[.int .u8 c] 5)) := by
  rw [run_convert_bytes_arg (W.alloc (.cells #[.int .u8 c] 5)) 36 5 Tryz.underlying36 Tryz.underlying5 W.heap.size 0 1 1 [c] rfl (fun i hi => by
    obtain rfl : i = 0 := by omega
    exact (cellOf (MapKept.heap_alloc W (.cells #[.int .u8 c] 5)).1).trans rfl) 9 Tryz.underlying9]
  rfl
theorem str_cons (x : UInt8) (o : List UInt8) : Value.string (({ data := #[x] } : ByteArray) ++ { data := o.toArray }) = .string ⟨(x :: o).toArray⟩ := by
  congr 1
theorem nd_le : ∀ (k u : Nat), 0 < k → u < 10 ^ k → Lib.nDigits u ≤ k
  | 0, _, h, _ => absurd h (Nat.lt_irrefl _)
  | k + 1, u, _, h => by
    by_cases h1 : u < 10
    · rw [Lib.nDigits_small h1]; omega
    · rw [Lib.nDigits_big h1]
      rcases Nat.eq_zero_or_pos k with rfl | hk
      · simp at h; omega
      · have := nd_le k (u / 10) hk (by rw [Nat.pow_succ] at h; omega)
        omega
theorem ten617 : pw 64 < ((10 ^ 617 : Nat) : Int) := by decide +kernel
theorem dec_le {N : Nat} (h : (N : Int) < pw 64) : (decT N []).length ≤ 617 := by
  unfold decT
  split
  · simp
  · rw [List.append_nil, Lib.decDigits_length]
    have := ten617
    exact nd_le 617 N (by decide) (by omega)
theorem decT_len (n : Nat) (o : List UInt8) : o.length ≤ (decT n o).length := by
  unfold decT
  split
  · exact Nat.le_refl _
  · rw [List.length_append]; omega
theorem good_ten : good [10] := fun x hx => by simp at hx; omega
theorem norm_ten : norm [10] := fun _ => by decide
structure DgI (w1 : World) (N : Nat) (d : Value) (wr : World) (o : List UInt8) (xs : List Int) (n : Nat) : Prop where
  r : RowK .i64 wr d xs
  g : good xs
  nm : norm xs
  s : xs.length ≤ 64
  v : val xs = n
  t : decT n o = decT N []
  bel : Below w1.heap.size w1 wr
def DgRel (w1 : World) (N : Nat) (out d : Value) (wr : World) : Prop := ∃ o xs n, out = .string ⟨o.toArray⟩ ∧ DgI w1 N d wr o xs n
set_option maxHeartbeats 3200000 in
set_option maxRecDepth 100000 in
theorem digits_c {w : World} {p : Bool} {s : Value} {xs : List Int} (r1 : RowK .i64 w s xs) (g1 : good xs) (n1 : norm xs) (s1 : xs.length ≤ 64) (hp : p = true → 0 < xs.length) :
    Calls Tryz.prog 31 #[.agg #[.bool p, s]] w (Gets (fun _ r => r = .string ⟨(Lib.itoa (sgz p (val xs))).toArray⟩) w) := by
  obtain ⟨a, c, rfl, hc⟩ := r1.len
  obtain ⟨N, hN⟩ : ∃ N : Nat, val xs = N := Int.eq_ofNat_of_zero_le (val_bounds g1).1
  have bw : Below w.heap.size w ((w.alloc (.cells #[.bool p, .slice a xs.length c] 65)).alloc (.cells #[.int .i64 10] 3)) := ((Below.refl _ _).alloc (Nat.le_refl _) _).alloc (by simp) _
  have hk : ((w.alloc (.cells #[.bool p, .slice a xs.length c] 65)).alloc (.cells #[.int .i64 10] 3)).heap[w.heap.size]? = some (.cells #[.bool p, .slice a xs.length c] 65) ∧ ((w.alloc (.cells #[.bool p, .slice a xs.length c] 65)).alloc (.cells #[.int .i64 10] 3)).heap[w.heap.size + 1]? = some (.cells #[.int .i64 10] 3) := by
    have e1 := (MapKept.heap_alloc w (.cells #[.bool p, .slice a xs.length c] 65)).1
    have e2 := (MapKept.heap_alloc (w.alloc (.cells #[.bool p, .slice a xs.length c] 65)) (.cells #[.int .i64 10] 3)).1
    have z1 : (w.alloc (.cells #[.bool p, .slice a xs.length c] 65)).heap.size = w.heap.size + 1 := by simp
    rw [z1] at e2
    have B2 := (Below.refl (w.heap.size + 1) (w.alloc (.cells #[.bool p, .slice a xs.length c] 65))).alloc (by simp) (.cells #[.int .i64 10] 3)
    exact ⟨(B2.block _ (by omega)).trans e1, e2⟩
  obtain ⟨RV, hRV⟩ : ∃ RV, Lib.itoa (sgz p (val xs)) = RV := ⟨_, rfl⟩
  rw [hRV]
  have hRV' := Lib.hid hRV
  clear hRV
  go_enter Tryz.func31, Tryz.ntmps31
  go_wp2
  obtain ⟨k1, k2⟩ := hk
  generalize (w.alloc (.cells #[.bool p, .slice a xs.length c] 65)).alloc (.cells #[.int .i64 10] 3) = w1 at *
  have hlt1 : w.heap.size + 1 < w1.heap.size := (Array.getElem?_eq_some_iff.1 k2).1
  have hten : RowK .i64 w1 (.slice (some ⟨w.heap.size + 1, 0, none⟩) 1 1) [10] := .inr ⟨w.heap.size + 1, 0, 1, rfl, Nat.le_refl _, hlt1, fun j hj => by
    obtain rfl : j = 0 := by simp at hj; omega
    exact (cellOf k2).trans rfl, id, fun _ h => h.elim⟩
  have hR1 := r1.below bw
  have hN617 : (decT N []).length ≤ 617 := dec_le (by
    have h1 := (val_bounds g1).2
    have h2 := pw_mono s1
    rw [hN] at h1; omega)
  go_loopw [3, 4] (DgRel w1 N) (fun _ d wr => (val (rowInts wr d)).toNat)
  case atStart => exact ⟨[], xs, N, rfl, hR1, g1, n1, s1, hN, rfl, Below.refl _ _⟩
  case round =>
    clear hR1 r1
    obtain ⟨o, us, n, rfl, D⟩ := hrel
    obtain ⟨au, cu, rfl, hcu⟩ := D.r.len
    have hm0 := row_ints D.r
    have hu := Lib.hid hm0
    have hol : o.length ≤ 617 := by have := decT_len n o; rw [D.t] at this; omega
    have hol' : ¬ 9223372036854775807 < 1 + o.length := by omega
    clear hm0
    by_cases h0 : 0 < us.length
    · have hv0 : 0 < n := by
        have := norm_low D.g D.nm h0
        have := pw_pos (us.length - 1)
        have := D.v
        omega
      have h0' : (0 : Int) < (us.length : Int) := by omega
      have hP := fun W (q1 : RowK .i64 W (.slice au us.length cu) us) (q2 : RowK .i64 W (.slice (some ⟨w.heap.size + 1, 0, none⟩) 1 1) [10]) => parts_all q1 q2 D.g good_ten D.nm norm_ten (Nat.le_trans D.s (by decide)) (by decide) (by decide)
      go_wp2_with fail
      refine (hP _ D.r (hten.below D.bel)).mono ?_
      rintro e w4 ⟨v4, rfl, ⟨qv, rv, rfl, ⟨qs, hq, gq, nq, vq⟩, ⟨rs, hr, gr, nr, vr⟩⟩, hb4⟩
      have e10 : val [10] = ((10 : Nat) : Int) := rfl
      have eq : val qs = ((n / 10 : Nat) : Int) := by rw [vq, D.v, e10]; rfl
      have er : val rs = ((n % 10 : Nat) : Int) := by rw [vr, D.v, e10]; rfl
      have lq : qs.length ≤ 64 := by
        refine Nat.le_trans (dig_len_le gq nq D.g ?_) D.s
        rw [eq, D.v]; have := Nat.div_le_self n 10; omega
      have lr : rs.length ≤ 1 := by
        apply dig_len gr nr
        rw [er]; have := Nat.mod_lt n (show 0 < 10 by decide)
        show ((n % 10 : Nat) : Int) < 4294967296; omega
      have D' : ∀ W', Below w4.heap.size w4 W' → DgI w1 N qv W' (UInt8.ofNat (48 + n % 10) :: o) qs (n / 10) := fun W' hW => ⟨(hq.below hW), gq, nq, lq, eq, (decT_step hv0 o).trans D.t, (D.bel.trans (hb4.mono D.bel.size)).trans (hW.mono (D.bel.trans (hb4.mono D.bel.size)).size)⟩
      have hmq := fun W' (hW : Below w4.heap.size w4 W') => row_ints (hq.below hW)
      have hlt := Nat.div_lt_self hv0 (show 1 < 10 by decide)
      have hDv := D.v
      have hm10 := Nat.mod_lt n (show 0 < 10 by decide)
      clear hP D hq
      obtain ⟨ar, cr, rfl, hcr⟩ := hr.len
      by_cases hr0 : rs.length = 0
      · have hz : n % 10 = 0 := by
          rw [List.eq_nil_of_length_eq_zero hr0] at er
          rw [val_nil] at er; omega
        rw [hr0] at *
        rw [hz] at D'
        clear er vr hz
        have HC := conv_one 48 w4
        go_wp2
        go_roundw
        case rel => exact ⟨_, qs, n / 10, str_cons _ _, D' _ ((Below.refl _ _).alloc (Nat.le_refl _) _)⟩
        case measure =>
          rw [hmq _ ((Below.refl _ _).alloc (Nat.le_refl _) _), hu.out, eq, hDv]
          omega
      · obtain ⟨y, rfl⟩ : ∃ y, rs = [y] := by
          match rs, lr, hr0 with
          | [y], _, _ => exact ⟨y, rfl⟩
          | [], _, h => exact absurd rfl h
          | _ :: _ :: _, h, _ => simp at h
        obtain ⟨br, ofr, hbr, hbl, hcell⟩ := hr.cell (j := 0) (by simp)
        have ey : y = ((n % 10 : Nat) : Int) := by rw [← er]; show y = y + 4294967296 * 0; omega
        have hcell : w4.cell? ⟨br, ofr, none⟩ = some (.int .i64 y) := hcell
        subst hbr
        have y0 : 0 ≤ y := by omega
        have y1 : y < 10 := by omega
        have ez : UInt8.ofNat (48 + n % 10) = UInt8.ofNat (48 + y).toNat := by rw [ey]; congr 1
        rw [ez] at D'
        have uw : IntKind.u8.wrap (48 + y) = 48 + y := by rw [IntKind.wrap_u8]; omega
        have HC := conv_one (48 + y) w4
        clear er vr ey ez hr hr0
        go_wp2
        go_roundw
        case rel => exact ⟨_, qs, n / 10, str_cons _ _, D' _ ((Below.refl _ _).alloc (Nat.le_refl _) _)⟩
        case measure =>
          rw [hmq _ ((Below.refl _ _).alloc (Nat.le_refl _) _), hu.out, eq, hDv]
          omega
    · have hl : us.length = 0 := by omega
      have hn : n = 0 := by
        have := D.v
        rw [List.eq_nil_of_length_eq_zero hl, val_nil] at this; omega
      subst hn
      have ht : o = decT N [] := D.t
      have hB : Below w.heap.size w wr := bw.trans (D.bel.mono bw.size)
      obtain ⟨f1, f2⟩ : wr.cell? ⟨w.heap.size, 0, none⟩ = some (.bool p) ∧ wr.cell? ⟨w.heap.size, 1, none⟩ = some (.slice a xs.length c) := by
        have k := (D.bel.block w.heap.size (by omega)).trans k1
        exact ⟨cellOf k, cellOf k⟩
      rw [hl] at *
      clear D hu
      have f3 : wr.cell? ⟨w.heap.size, 0, none⟩ = some (.bool p) := f1
      by_cases hN0 : N = 0
      · subst hN0
        have ho : o = [] := ht
        subst ho
        have hres : RV = [48] := by
          rw [← hRV'.out, hN]
          cases p
          · exact Lib.decDigits_one (by decide)
          · exact Lib.decDigits_one (by decide)
        subst hres
        clear ht hol hol' hN617 hN hRV' hp f3
        go_wp2
        go_ret
        exact ⟨_, rfl, rfl, hB⟩
      · have ho : o = Lib.decDigits N := by rw [ht]; unfold decT; rw [if_neg hN0, List.append_nil]
        have hne : o ≠ [] := fun e => by
          have h1 := Lib.nDigits_pos N
          rw [← Lib.decDigits_length, ← ho, e] at h1
          exact absurd h1 (by decide)
        obtain ⟨x, o', rfl⟩ : ∃ x o', o = x :: o' := by
          cases o with
          | nil => exact absurd rfl hne
          | cons x o' => exact ⟨x, o', rfl⟩
        have hres : RV = if p then 45 :: x :: o' else x :: o' := by
          rw [← hRV'.out, hN]
          cases p
          · show (if ((N : Nat) : Int) < 0 then _ else _) = _
            rw [if_neg (by omega), ho]; rfl
          · show (if (-((N : Nat) : Int)) < 0 then _ else _) = _
            rw [if_pos (by omega), ho]
            show 45 :: Lib.decDigits (-(N : Int)).natAbs = _
            rw [Int.natAbs_neg, Int.natAbs_natCast]; rfl
        have hsn : ((⟨(x :: o').toArray⟩ : ByteArray) == ⟨#[]⟩) = false := by rfl
        clear ht hN617 hN hRV' hp ho hne hol f3
        cases p with
        | false =>
          go_wp2
          go_ret
          exact ⟨_, rfl, rfl, hB⟩
        | true =>
          go_wp2
          go_ret
          exact ⟨_, rfl, str_cons _ _, hB⟩
end Go.Proofs.YtaafimabgcnbaaaGreatDoor
namespace Go.Proofs.YtaafimabgcnbaaaGreatDoor
open Go Go.RowKit Go.Big
attribute [local instance] noAv
/-- The octets from i on are decimal digits. -/
def digFrom (s : ByteArray) (i : Nat) : Prop := ∀ j (h : j < s.size), i ≤ j → 48 ≤ (s[j]'h).toNat ∧ (s[j]'h).toNat ≤ 57
/-- Where the digits begin. -/
def signAt (s : ByteArray) : Nat := if h : 0 < s.size then (if (s[0]'h).toNat = 45 then 1 else 0) else 0
def RightP (s : ByteArray) : Prop := ∃ h : signAt s < s.size, ¬ ((s[signAt s]'h).toNat = 48 ∧ 1 < s.size) ∧ digFrom s (signAt s)
theorem digFrom_step {s : ByteArray} {i : Nat} (h : i < s.size) (h0 : 48 ≤ (s[i]'h).toNat) (h1 : (s[i]'h).toNat ≤ 57) (h2 : digFrom s (i + 1)) : digFrom s i := fun j hj hij => by
  by_cases e : j = i
  · subst e; exact ⟨h0, h1⟩
  · exact h2 j hj (by omega)
set_option maxHeartbeats 1600000 in
set_option maxRecDepth 100000 in
/-- The loop of Right, from place i on. -/
theorem right_from {w : World} (s : ByteArray) (hs : s.size ≤ 1000000) (f : Nat) (hf : f = signAt s) (hlt : f < s.size) (hz : ¬ ((s[f]'hlt).toNat = 48 ∧ 1 < s.size)) :
    Calls Tryz.prog 39 #[.string s] w (Gets (fun _ r => ∃ b, r = .bool b ∧ (b = true ↔ digFrom s f)) w) := by
  have h0 : 0 < s.size := by omega
  have h0' : (0 : Int) < (s.size : Int) := by omega
  by_cases h45 : (s[0]'h0).toNat = 45
  · have hf1 : f = 1 := by rw [hf]; unfold signAt; rw [dif_pos h0, if_pos h45]
    subst hf1
    have hb : (((s[0]'h0).toNat : Int) == 45) = true := by simp [h45]
    have hs1 : ((s.size : Int) == 1) = false := beq_eq_false_iff_ne.2 (by omega)
    have hd : (((s[1]'hlt).toNat : Int) == 48) = false := by
      have : (s[1]'hlt).toNat ≠ 48 := fun e => hz ⟨e, hlt⟩
      exact beq_eq_false_iff_ne.2 (by omega)
    clear hf hz h45
    go_enter Tryz.func39, Tryz.ntmps39
    go_wp2
    go_loopw [4] (fun i wr => ∃ k : Nat, i = .int .i64 k ∧ 1 ≤ k ∧ k ≤ s.size ∧ (digFrom s k → digFrom s 1) ∧ Below w.heap.size w wr) (fun i _ => s.size - (intOf i).toNat)
    case atStart => exact ⟨1, rfl, Nat.le_refl _, by omega, id, Below.refl _ _⟩
    case round =>
      obtain ⟨k, rfl, hk0, hk, hall, hB⟩ := hrel
      by_cases hks : k < s.size
      · have q0 : (0 : Int) ≤ (k : Int) := by omega
        have q1 : (k : Int) < (s.size : Int) := by omega
        by_cases hlo : (s[k]'hks).toNat < 48
        · have hlo' : (((s[k]'hks).toNat : Int)) < 48 := by omega
          have hno : ¬ digFrom s 1 := fun h => by have := h k hks hk0; omega
          clear hall
          go_wp2
          go_ret
          first | exact ⟨_, rfl, rfl, hB⟩ | exact ⟨_, rfl, ⟨_, rfl, by simp [hno]⟩, hB⟩
        · by_cases hhi : 57 < (s[k]'hks).toNat
          · have hlo' : ¬ (((s[k]'hks).toNat : Int)) < 48 := by omega
            have hhi' : 57 < (((s[k]'hks).toNat : Int)) := by omega
            have hno : ¬ digFrom s 1 := fun h => by have := h k hks hk0; omega
            clear hall hlo
            go_wp2
            go_ret
            first | exact ⟨_, rfl, rfl, hB⟩ | exact ⟨_, rfl, ⟨_, rfl, by simp [hno]⟩, hB⟩
          · have hlo' : ¬ (((s[k]'hks).toNat : Int)) < 48 := by omega
            have hhi' : ¬ 57 < (((s[k]'hks).toNat : Int)) := by omega
            have hst := fun h => hall (digFrom_step hks (by omega) (by omega) h)
            clear hall hlo hhi
            go_wp2
            go_roundw
            case rel => exact ⟨k + 1, rfl, by omega, by omega, hst, hB⟩
            case measure => simp [intOf]; omega
      · have hke : k = s.size := by omega
        have hyes : digFrom s 1 := hall (fun j hj hij => by omega)
        clear hall
        subst hke
        go_wp2
        go_ret
        first | exact ⟨_, rfl, rfl, hB⟩ | exact ⟨_, rfl, ⟨_, rfl, by simp [hyes]⟩, hB⟩
  · have hf0 : f = 0 := by rw [hf]; unfold signAt; rw [dif_pos h0, if_neg h45]
    subst hf0
    have hb : (((s[0]'h0).toNat : Int) == 45) = false := beq_eq_false_iff_ne.2 (by omega)
    have hs1 : ((s.size : Int) == 0) = false := beq_eq_false_iff_ne.2 (by omega)
    by_cases h48 : (s[0]'h0).toNat = 48
    · have hd : (((s[0]'h0).toNat : Int) == 48) = true := by simp [h48]
      have hsz : ¬ 1 < s.size := fun h => hz ⟨h48, h⟩
      have hsz' : ¬ (1 : Int) < (s.size : Int) := by omega
      clear hf hz h45 h48
      go_enter Tryz.func39, Tryz.ntmps39
      go_wp2
      go_loopw [4] (fun i wr => ∃ k : Nat, i = .int .i64 k ∧ 0 ≤ k ∧ k ≤ s.size ∧ (digFrom s k → digFrom s 0) ∧ Below w.heap.size w wr) (fun i _ => s.size - (intOf i).toNat)
      case atStart => exact ⟨0, rfl, Nat.le_refl _, by omega, id, Below.refl _ _⟩
      case round =>
        obtain ⟨k, rfl, hk0, hk, hall, hB⟩ := hrel
        by_cases hks : k < s.size
        · have q0 : (0 : Int) ≤ (k : Int) := by omega
          have q1 : (k : Int) < (s.size : Int) := by omega
          by_cases hlo : (s[k]'hks).toNat < 48
          · have hlo' : (((s[k]'hks).toNat : Int)) < 48 := by omega
            have hno : ¬ digFrom s 0 := fun h => by have := h k hks hk0; omega
            clear hall
            go_wp2
            go_ret
            first | exact ⟨_, rfl, rfl, hB⟩ | exact ⟨_, rfl, ⟨_, rfl, by simp [hno]⟩, hB⟩
          · by_cases hhi : 57 < (s[k]'hks).toNat
            · have hlo' : ¬ (((s[k]'hks).toNat : Int)) < 48 := by omega
              have hhi' : 57 < (((s[k]'hks).toNat : Int)) := by omega
              have hno : ¬ digFrom s 0 := fun h => by have := h k hks hk0; omega
              clear hall hlo
              go_wp2
              go_ret
              first | exact ⟨_, rfl, rfl, hB⟩ | exact ⟨_, rfl, ⟨_, rfl, by simp [hno]⟩, hB⟩
            · have hlo' : ¬ (((s[k]'hks).toNat : Int)) < 48 := by omega
              have hhi' : ¬ 57 < (((s[k]'hks).toNat : Int)) := by omega
              have hst := fun h => hall (digFrom_step hks (by omega) (by omega) h)
              clear hall hlo hhi
              go_wp2
              go_roundw
              case rel => exact ⟨k + 1, rfl, by omega, by omega, hst, hB⟩
              case measure => simp [intOf]; omega
        · have hke : k = s.size := by omega
          have hyes : digFrom s 0 := hall (fun j hj hij => by omega)
          clear hall
          subst hke
          go_wp2
          go_ret
          first | exact ⟨_, rfl, rfl, hB⟩ | exact ⟨_, rfl, ⟨_, rfl, by simp [hyes]⟩, hB⟩
    · have hd : (((s[0]'h0).toNat : Int) == 48) = false := beq_eq_false_iff_ne.2 (by omega)
      clear hf hz h45 h48
      go_enter Tryz.func39, Tryz.ntmps39
      go_wp2
      go_loopw [4] (fun i wr => ∃ k : Nat, i = .int .i64 k ∧ 0 ≤ k ∧ k ≤ s.size ∧ (digFrom s k → digFrom s 0) ∧ Below w.heap.size w wr) (fun i _ => s.size - (intOf i).toNat)
      case atStart => exact ⟨0, rfl, Nat.le_refl _, by omega, id, Below.refl _ _⟩
      case round =>
        obtain ⟨k, rfl, hk0, hk, hall, hB⟩ := hrel
        by_cases hks : k < s.size
        · have q0 : (0 : Int) ≤ (k : Int) := by omega
          have q1 : (k : Int) < (s.size : Int) := by omega
          by_cases hlo : (s[k]'hks).toNat < 48
          · have hlo' : (((s[k]'hks).toNat : Int)) < 48 := by omega
            have hno : ¬ digFrom s 0 := fun h => by have := h k hks hk0; omega
            clear hall
            go_wp2
            go_ret
            first | exact ⟨_, rfl, rfl, hB⟩ | exact ⟨_, rfl, ⟨_, rfl, by simp [hno]⟩, hB⟩
          · by_cases hhi : 57 < (s[k]'hks).toNat
            · have hlo' : ¬ (((s[k]'hks).toNat : Int)) < 48 := by omega
              have hhi' : 57 < (((s[k]'hks).toNat : Int)) := by omega
              have hno : ¬ digFrom s 0 := fun h => by have := h k hks hk0; omega
              clear hall hlo
              go_wp2
              go_ret
              first | exact ⟨_, rfl, rfl, hB⟩ | exact ⟨_, rfl, ⟨_, rfl, by simp [hno]⟩, hB⟩
            · have hlo' : ¬ (((s[k]'hks).toNat : Int)) < 48 := by omega
              have hhi' : ¬ 57 < (((s[k]'hks).toNat : Int)) := by omega
              have hst := fun h => hall (digFrom_step hks (by omega) (by omega) h)
              clear hall hlo hhi
              go_wp2
              go_roundw
              case rel => exact ⟨k + 1, rfl, by omega, by omega, hst, hB⟩
              case measure => simp [intOf]; omega
        · have hke : k = s.size := by omega
          have hyes : digFrom s 0 := hall (fun j hj hij => by omega)
          clear hall
          subst hke
          go_wp2
          go_ret
          first | exact ⟨_, rfl, rfl, hB⟩ | exact ⟨_, rfl, ⟨_, rfl, by simp [hyes]⟩, hB⟩
set_option maxHeartbeats 1600000 in
set_option maxRecDepth 100000 in
/-- A text with no digits, or with a 0 ahead of other octets. -/
theorem right_no {w : World} (s : ByteArray) (hs : s.size ≤ 1000000) (h : ∀ hlt : signAt s < s.size, (s[signAt s]'hlt).toNat = 48 ∧ 1 < s.size) :
    Calls Tryz.prog 39 #[.string s] w (Gets (fun _ r => r = .bool false) w) := by
  by_cases h0 : 0 < s.size
  · have h0' : (0 : Int) < (s.size : Int) := by omega
    by_cases h45 : (s[0]'h0).toNat = 45
    · have hb : (((s[0]'h0).toNat : Int) == 45) = true := by simp [h45]
      have hf1 : signAt s = 1 := by unfold signAt; rw [dif_pos h0, if_pos h45]
      by_cases h1 : 1 < s.size
      · have hs1 : ((s.size : Int) == 1) = false := beq_eq_false_iff_ne.2 (by omega)
        have hd : (((s[1]'h1).toNat : Int) == 48) = true := by
          have := (h (by rw [hf1]; exact h1)).1
          simp only [hf1] at this
          simp [this]
        have h1' : (1 : Int) < (s.size : Int) := by omega
        clear h hf1 h45
        go_enter Tryz.func39, Tryz.ntmps39
        go_wp2
        go_ret
        exact ⟨_, rfl, rfl, Below.refl _ _⟩
      · have hs1 : ((s.size : Int) == 1) = true := beq_iff_eq.2 (by omega)
        clear h hf1 h45
        go_enter Tryz.func39, Tryz.ntmps39
        go_wp2
        go_ret
        exact ⟨_, rfl, rfl, Below.refl _ _⟩
    · have hf0 : signAt s = 0 := by unfold signAt; rw [dif_pos h0, if_neg h45]
      have hb : (((s[0]'h0).toNat : Int) == 45) = false := beq_eq_false_iff_ne.2 (by omega)
      have hs1 : ((s.size : Int) == 0) = false := beq_eq_false_iff_ne.2 (by omega)
      obtain ⟨k1, k2⟩ := h (by rw [hf0]; exact h0)
      simp only [hf0] at k1
      have hd : (((s[0]'h0).toNat : Int) == 48) = true := by simp [k1]
      have h1' : (1 : Int) < (s.size : Int) := by omega
      clear h hf0 h45 k1
      go_enter Tryz.func39, Tryz.ntmps39
      go_wp2
      go_ret
      exact ⟨_, rfl, rfl, Below.refl _ _⟩
  · have hs0 : ((s.size : Int) == 0) = true := beq_iff_eq.2 (by omega)
    have hn : ¬ (0 : Int) < (s.size : Int) := by omega
    clear h
    go_enter Tryz.func39, Tryz.ntmps39
    go_wp2
    go_ret
    exact ⟨_, rfl, rfl, Below.refl _ _⟩
end Go.Proofs.YtaafimabgcnbaaaGreatDoor
namespace Go.Proofs.YtaafimabgcnbaaaGreatDoor
open Go Go.RowKit Go.Big
attribute [local instance] noAv
/-- What the first k octets stand for; a '-' counts nothing. -/
def numV (s : ByteArray) : Nat → Nat
  | 0 => 0
  | k + 1 => if h : k < s.size then (if (s[k]'h).toNat = 45 then numV s k else numV s k * 10 + ((s[k]'h).toNat - 48)) else numV s k
/-- Octets that are digits or '-'. -/
def numOk (s : ByteArray) : Prop := ∀ j (h : j < s.size), (s[j]'h).toNat = 45 ∨ (48 ≤ (s[j]'h).toNat ∧ (s[j]'h).toNat ≤ 57)
theorem numV_lt {s : ByteArray} (h : numOk s) : ∀ k, numV s k < 10 ^ k
  | 0 => by show 0 < 1; decide
  | k + 1 => by
    have ih := numV_lt h k
    unfold numV
    rw [Nat.pow_succ]
    split
    · rename_i hk
      split
      · omega
      · have := h k hk; omega
    · omega
theorem ten200 : ((10 ^ 202 : Nat) : Int) < pw 64 := by decide +kernel
theorem small_num {s : ByteArray} (h : numOk s) {k : Nat} (hk : k ≤ 202) : small ((numV s k : Nat) : Int) := by
  have h1 := numV_lt h k
  have h2 := Nat.pow_le_pow_right (show 0 < 10 by decide) hk
  have h3 := ten200
  unfold small
  omega
theorem below_al {w0 W : World} (h : Below w0.heap.size w0 W) (o : Obj) : Below w0.heap.size w0 (W.alloc o) := h.alloc h.size o
theorem next0' {w0 W W' : World} (h : Below w0.heap.size w0 W) (hb : Below W.heap.size W W') : Below w0.heap.size w0 W' := h.trans (hb.mono h.size)
theorem carry {W w' : World} {z : Obj} {B : Nat} (h : W.heap[B]? = some z) (hb : Below W.heap.size W w') : w'.heap[B]? = some z :=
  (hb.block B (Array.getElem?_eq_some_iff.1 h).1).trans h
theorem cells2 {W : World} {B : Nat} {p s : Value} {t : TypeId} (k : W.heap[B]? = some (.cells #[p, s] t)) : W.cell? ⟨B, 0, none⟩ = some p ∧ W.cell? ⟨B, 1, none⟩ = some s ∧ W.frozen? ⟨B, 0, none⟩ = false ∧ W.frozen? ⟨B, 1, none⟩ = false :=
  ⟨cellOf k, cellOf k, frozenOf k, frozenOf k⟩
theorem set2_heap {W : World} {B : Nat} {t : TypeId} {z0 z1 : Value} (k : W.heap[B]? = some (.cells #[z0, z1] t)) (u0 u1 : Value) : ((W.setCell ⟨B, 0, none⟩ u0).setCell ⟨B, 1, none⟩ u1).heap[B]? = some (.cells #[u0, u1] t) := by
  have h0 : (W.setCell ⟨B, 0, none⟩ u0).heap[B]? = some (.cells #[u0, z1] t) := heap_setCell_same _ B 0 _ t u0 k
  exact heap_setCell_same _ B 1 _ t u1 h0
theorem set2_other {W : World} {B C : Nat} (h : C ≠ B) (u0 u1 : Value) : ((W.setCell ⟨B, 0, none⟩ u0).setCell ⟨B, 1, none⟩ u1).heap[C]? = W.heap[C]? := by
  rw [Go.Deep.blk_setCell_other _ _ _ _ h, Go.Deep.blk_setCell_other _ _ _ _ h]
structure VaI (w : World) (z : Int) (b : Bool) (v : Value) (wr : World) : Prop where
  lv : LongV wr (.agg #[.bool b, v]) z
  k3 : wr.heap[w.heap.size + 1]? = some (.cells #[.bool b, v] 65)
  bel : Below w.heap.size w wr
  k2 : wr.heap[w.heap.size]? = some (.cells #[.bool false, .slice none 0 0] 65)
theorem long_nil (w : World) : LongV w (.agg #[.bool false, .slice none 0 0]) 0 := ⟨false, _, [], rfl, (RowK.nil fun _ h => h.elim), good_nil, (fun h => absurd h (Nat.lt_irrefl _)), (fun h => absurd h (by decide)), rfl⟩
set_option maxHeartbeats 3200000 in
set_option maxRecDepth 100000 in
theorem value_c {w : World} (s : ByteArray) (hs : s.size ≤ 200) (h0 : 0 < s.size) (hok : numOk s) :
    Calls Tryz.prog 41 #[.string s] w (Gets (fun w' r => LongV w' r (sgz ((s[0]'h0).toNat == 45) ((numV s s.size : Nat) : Int))) w) := by
  obtain ⟨k2, k3⟩ := heap2 w (.cells #[.bool false, .slice none 0 0] 65) (.cells #[.bool false, .slice none 0 0] 65)
  have bw : Below w.heap.size w ((w.alloc (.cells #[.bool false, .slice none 0 0] 65)).alloc (.cells #[.bool false, .slice none 0 0] 65)) := below_al (below_al (Below.refl _ _) _) _
  have L0 := long_nil ((w.alloc (.cells #[.bool false, .slice none 0 0] 65)).alloc (.cells #[.bool false, .slice none 0 0] 65))
  go_enter Tryz.func41, Tryz.ntmps41
  go_wp2
  generalize (w.alloc (.cells #[.bool false, .slice none 0 0] 65)).alloc (.cells #[.bool false, .slice none 0 0] 65) = w1 at *
  go_loopw [4] (fun i wr => ∃ (k : Nat) (b : Bool) (v : Value), i = .int .i64 k ∧ k ≤ s.size ∧ VaI w ((numV s k : Nat) : Int) b v wr) (fun i _ => s.size - (intOf i).toNat)
  case atStart => exact ⟨0, false, _, rfl, Nat.zero_le _, ⟨L0, k3, bw, k2⟩⟩
  case round =>
    clear L0 k2 k3 bw
    obtain ⟨k, b, v, rfl, hk, D⟩ := hrel
    obtain ⟨b', s', xs, eb, hr, -⟩ := id D.lv
    obtain ⟨a, c, rfl, -⟩ := hr.len
    obtain ⟨rfl, rfl⟩ : b = b' ∧ v = .slice a xs.length c := by injection eb with eb; injection eb with eb; injection eb with e1 e2; injection e1 with e1; injection e2 with e2; exact ⟨e1, e2⟩
    clear eb hr
    by_cases hks : k < s.size
    · have q0 : (0 : Int) ≤ (k : Int) := by omega
      have q1 : (k : Int) < (s.size : Int) := by omega
      have hst : numV s (k + 1) = if (s[k]'hks).toNat = 45 then numV s k else numV s k * 10 + ((s[k]'hks).toNat - 48) := by
        conv => lhs; unfold numV
        rw [dif_pos hks]
      by_cases h45 : (s[k]'hks).toNat = 45
      · have hb : (((s[k]'hks).toNat : Int) == 45) = true := by simp [h45]
        rw [if_pos h45] at hst
        have D' : VaI w ((numV s (k + 1) : Nat) : Int) b (.slice a xs.length c) wr := by rw [hst]; exact D
        clear hst D h45
        go_wp2
        go_roundw
        case rel => exact ⟨k + 1, b, _, rfl, by omega, D'⟩
        case measure => simp [intOf]; omega
      · have hb : (((s[k]'hks).toNat : Int) == 45) = false := beq_eq_false_iff_ne.2 (by omega)
        rw [if_neg h45] at hst
        obtain ⟨c0, c1⟩ : 48 ≤ (s[k]'hks).toNat ∧ (s[k]'hks).toNat ≤ 57 := by
          rcases hok k hks with h | h
          · exact absurd h h45
          · exact h
        have hsk := small_num hok (k := k) (by omega)
        have hsk1 := small_num hok (k := k + 1) (by omega)
        have s10 : small 10 := by unfold small; have : pw 64 > 10 := by decide
                                  omega
        have hlt := numV_lt hok (k + 1)
        obtain ⟨u, hu⟩ : ∃ u : Int, u = ((s[k]'hks).toNat : Int) - 48 := ⟨_, rfl⟩
        have u0 : 0 ≤ u := by omega
        have u9 : u ≤ 9 := by omega
        have hz : ((numV s (k + 1) : Nat) : Int) = ((numV s k : Nat) : Int) * 10 + u := by rw [hst, hu]; omega
        have suu : small u := by unfold small at s10 ⊢; omega
        have sm1 : small (((numV s k : Nat) : Int) * 10) := by
          rw [hz] at hsk1; unfold small at hsk1 ⊢; omega
        have uw : IntKind.u8.wrap (((s[k]'hks).toNat : Int) - 48) = u := by rw [IntKind.wrap_u8]; omega
        have uw2 : IntKind.i64.wrap u = u := by rw [IntKind.wrap_i64]; omega
        have Lv := LongV.below (w := wr) (w' := wr.drew) D.lv (Below.refl _ _).drew
        have K3 : wr.drew.heap[w.heap.size + 1]? = some (.cells #[.bool b, .slice a xs.length c] 65) := D.k3
        have K2 : wr.drew.heap[w.heap.size]? = some (.cells #[.bool false, .slice none 0 0] 65) := D.k2
        have vx := D.bel.drew
        obtain ⟨i1, i2, i3, i4⟩ := cells2 K3
        obtain ⟨i5, i6, i7, i8⟩ := cells2 D.k3
        have hz' := Lib.hid hz
        have hu' := Lib.hid hu
        have hst' := Lib.hid hst
        clear hz hu hst D hlt hok hsk1
        go_wp2
        go_region_with (first | (go_at_call 54; ((with_reducible refine (long1_0 10 (by decide) (by decide)).mono ?_)); rintro e w5 ⟨d5, rfl, h5, hb5⟩; have M8 := carry K3 hb5; obtain ⟨j1, j2, j3, j4⟩ := cells2 M8; have v5 := next0' vx hb5; have W8 := carry K2 hb5) | (go_at_call 73; ((with_reducible refine (times_c (Lv.below hb5) h5 hsk s10).mono ?_)); rintro e w6 ⟨d6, rfl, h6, hb6⟩; have M6 := carry M8 hb6; have v6 := next0' v5 hb6; have W6 := carry W8 hb6) | (go_at_call 54; ((with_reducible refine (long1_0 u (by omega) (by omega)).mono ?_)); rintro e w7 ⟨d7, rfl, h7, hb7⟩; have M7 := carry M6 hb7; have v7 := next0' v6 hb7; have W7 := carry W6 hb7) | (go_at_call 55; ((with_reducible refine (plus_c (h6.below hb7) h7 sm1 suu).mono ?_)); rintro e w9 ⟨d9, rfl, h9, hb9⟩; have M9 := carry M7 hb9; obtain ⟨l1, l2, l3, l4⟩ := cells2 M9; have v9 := next0' v7 hb9; have W9 := carry W7 hb9; obtain ⟨b9, s9, zs9, rfl, hr9, g9, n9, p9, z9⟩ := id h9; obtain ⟨a9, c9, rfl, -⟩ := hr9.len))
        all_goals
          have e8 := set2_heap M9 (.bool b9) (.slice a9 zs9.length c9)
          have e9 := (set2_other (W := w9) (B := w.heap.size + 1) (C := w.heap.size) (by omega) (.bool b9) (.slice a9 zs9.length c9)).trans W9
          have eX : Below w.heap.size w ((w9.setCell ⟨w.heap.size + 1, 0, none⟩ (.bool b9)).setCell ⟨w.heap.size + 1, 1, none⟩ (.slice a9 zs9.length c9)) := (v9.setCell (by simp) _).setCell (by simp) _
          have eQ := LongV.box2 h9 l1 l2 (.bool b9) (.slice a9 zs9.length c9)
          rw [← hz'.out] at eQ
          have D' : VaI w ((numV s (k + 1) : Nat) : Int) b9 (.slice a9 zs9.length c9) ((w9.setCell ⟨w.heap.size + 1, 0, none⟩ (.bool b9)).setCell ⟨w.heap.size + 1, 1, none⟩ (.slice a9 zs9.length c9)) := ⟨eQ, e8, eX, e9⟩
          clear e8 e9 eX eQ M9 W9 v9 h9 z9 hr9 M7 M6 M8 W8 W7 W6 h5 h6 h7 hb5 hb6 hb7 hb9 v5 v6 v7 Lv K3 K2 vx
        all_goals
          go_wp2
          go_roundw
          case rel => exact ⟨k + 1, b9, _, rfl, by omega, D'⟩
          case measure => simp [intOf]; omega
    · obtain rfl : k = s.size := by omega
      have hsk := small_num hok (k := s.size) (by omega)
      obtain ⟨b', s', xs', eb, hr, gx, nx, px, zx⟩ := id D.lv
      obtain ⟨rfl, rfl⟩ : b = b' ∧ .slice a xs.length c = s' := by injection eb with eb; injection eb with eb; injection eb with e1 e2; injection e1 with e1; injection e2 with e2; exact ⟨e1, e2⟩
      have hlen := small_len gx nx zx hsk
      have hbf : b = false := by
        cases b with
        | false => rfl
        | true =>
          exfalso
          have h1 := norm_low gx nx (px rfl)
          have h2 := pw_pos (xs'.length - 1)
          rw [sgz_t] at zx; omega
      subst hbf
      rw [sgz_f] at zx
      have hr' := RowK.below hr (Below.refl wr.heap.size wr).drew
      have K2 : wr.drew.heap[w.heap.size]? = some (.cells #[.bool false, .slice none 0 0] 65) := D.k2
      have K3 : wr.drew.heap[w.heap.size + 1]? = some (.cells #[.bool false, .slice a xs.length c] 65) := D.k3
      have vx := D.bel.drew
      obtain ⟨i1, i2, i3, i4⟩ := cells2 K3
      obtain ⟨i5, i6, i7, i8⟩ := cells2 D.k3
      obtain ⟨B, hB⟩ : ∃ B, (((s[0]'h0).toNat : Int) == 45) = B := ⟨_, rfl⟩
      have hB2 : ((s[0]'h0).toNat == 45) = B := by
        rw [← hB]
        by_cases h : (s[0]'h0).toNat = 45
        · rw [beq_iff_eq.2 h, beq_iff_eq.2 (by omega)]
        · rw [beq_eq_false_iff_ne.2 h, beq_eq_false_iff_ne.2 (by omega)]
      have h0' : (0 : Int) < (s.size : Int) := by omega
      have hB2' := Lib.hid hB2
      have zx' := Lib.hid zx
      clear hB2 zx D hok eb px
      go_wp2
      go_region_with (first | (go_at_call 61; ((with_reducible refine (made_c B hr' gx (Nat.le_trans hlen (by decide))).mono ?_)); rintro e w5 ⟨d5, rfl, h5, hb5⟩; have M5 := carry K2 hb5; obtain ⟨j1, j2, j3, j4⟩ := cells2 M5; have v5 := next0' vx hb5; obtain ⟨b9, s9, zs9, rfl, hr9, -⟩ := id h5; obtain ⟨a9, c9, rfl, -⟩ := hr9.len))
      all_goals
        have e8 := set2_heap M5 (.bool b9) (.slice a9 zs9.length c9)
        obtain ⟨h4, h6, -, -⟩ := cells2 e8
        have eQ := LongV.box2 h5 j1 j2 (.bool b9) (.slice a9 zs9.length c9)
        have eX : Below w.heap.size w ((w5.setCell ⟨w.heap.size, 0, none⟩ (.bool b9)).setCell ⟨w.heap.size, 1, none⟩ (.slice a9 zs9.length c9)) := (v5.setCell (by simp) _).setCell (by simp) _
        have eQ' : LongV ((w5.setCell ⟨w.heap.size, 0, none⟩ (.bool b9)).setCell ⟨w.heap.size, 1, none⟩ (.slice a9 zs9.length c9)) (.agg #[.bool b9, .slice a9 zs9.length c9]) (sgz ((s[0]'h0).toNat == 45) ((numV s s.size : Nat) : Int)) := by
          rw [hB2'.out, zx'.out]; exact eQ
        clear e8 eQ M5 v5 h5 hr9 K2 K3 vx hr hr' hb5
      all_goals
        go_wp2
        exact bodyPost_ret (v := .agg #[.bool b9, .slice a9 zs9.length c9]) (by simp [results, Tryz.results41, go_sem, h4, h6]) rfl ⟨_, rfl, eQ', eX⟩
end Go.Proofs.YtaafimabgcnbaaaGreatDoor
namespace Go.Proofs.YtaafimabgcnbaaaGreatDoor
open Go Go.Rx Go.RowKit Go.Big
attribute [local instance] noAv
theorem digits_l {w : World} {u : Value} {x : Int} (h : LongV w u x) (k : small x) : Calls Tryz.prog 31 #[u] w (Gets (fun _ r => r = .string ⟨(Lib.itoa x).toArray⟩) w) := by
  obtain ⟨p, s, xs, rfl, r1, g1, n1, z1, rfl⟩ := h
  exact digits_c r1 g1 n1 (small_len g1 n1 rfl k) z1
set_option maxHeartbeats 1600000 in
set_option maxRecDepth 100000 in
theorem refText_c {w : World} {x : Int} (hx : fit x) (hs : small x) : Calls Tryz.prog 6 #[W x] w (Gets (fun _ r => r = .string ⟨(Lib.itoa x).toArray⟩) w) := by
  obtain ⟨a0, a1, a2, a3, a4, a5, a6, a7, hg, hw, he⟩ := words_of hx
  rw [he]
  have hin := fun U => in_c (w := U) a0 a1 a2 a3 a4 a5 a6 a7 hg
  rw [hw] at hin
  clear hw he hg
  have bw : ∀ o, Below w.heap.size w (w.alloc o) := fun o => below_al (Below.refl _ _) o
  obtain ⟨l, hl⟩ : ∃ l, Lib.itoa x = l := ⟨_, rfl⟩
  have hd := fun (U : World) u (h : LongV U u x) => digits_l h hs
  rw [hl] at hd ⊢
  clear hl
  go_enter Tryz.func6, Tryz.ntmps6
  go_wp2_with fail
  with_reducible refine (hin _).mono ?_
  rintro e w1 ⟨d, rfl, hd1, hb1⟩
  have x1 := next0' (bw _) hb1
  go_wp2_with fail
  with_reducible refine (hd _ _ hd1).mono ?_
  rintro e w2 ⟨v, rfl, rfl, hb2⟩
  have x2 := next0' x1 hb2
  go_wp2
  go_ret
  exact ⟨_, rfl, rfl, x2⟩
end Go.Proofs.YtaafimabgcnbaaaGreatDoor
namespace Go.Proofs.YtaafimabgcnbaaaGreatDoor
open Go Go.Rx Go.RowKit Go.Big
attribute [local instance] noAv
theorem empty_of (s : ByteArray) : s.toList.isEmpty = decide (s.size = 0) := by
  rw [ByteArray.toList_eq]
  show s.data.toList.isEmpty = decide (s.data.size = 0)
  rcases s with ⟨⟨l⟩⟩
  cases l <;> simp
theorem is_zero (s : ByteArray) (h : 0 < s.size) (h1 : (s[0]'h).toNat = 48) (h2 : s.size = 1) : (s.toList == [48]) = true := by
  rw [ByteArray.toList_eq]
  rcases s with ⟨⟨l⟩⟩
  match l, h, h1, h2 with
  | [x], h, h1, h2 =>
    have h3 : x.toNat = 48 := h1
    have h4 : x = 48 := UInt8.toNat_inj.1 h3
    simp [h4]
theorem no_zero (s : ByteArray) (hn : ¬ ∃ h : 0 < s.size, (s[0]'h).toNat = 48 ∧ s.size = 1) : (s.toList == [48]) = false := by
  rw [ByteArray.toList_eq]
  rcases s with ⟨⟨l⟩⟩
  refine beq_eq_false_iff_ne.2 fun e => hn ?_
  have e' : l = [48] := e
  subst e'
  exact ⟨Nat.zero_lt_one, rfl, rfl⟩
theorem below_iter {w : World} (s : ByteArray) (pos : Nat) : Below w.heap.size w (w.iter s pos) := below_al (Below.refl _ _) _
set_option maxHeartbeats 1600000 in
set_option maxRecDepth 100000 in
theorem numeral_c {w : World} (s : ByteArray) (hs : s.size ≤ 1000000) :
    Calls Tryz.prog 36 #[.string s] w (Gets (fun _ r => ∃ b, r = .bool b ∧ (b = true ↔ digFrom s 0 ∧ ∃ h : 0 < s.size, ¬ ((s[0]'h).toNat = 48 ∧ 1 < s.size))) w) := by
  go_enter Tryz.func36, Tryz.ntmps36
  go_wp2
  go_loopw [4] (fun _ wr => ∃ pos : Nat, wr = w.iter s pos ∧ (digFrom s pos → digFrom s 0)) (fun _ w' => s.size - w'.iterPos w.heap.size)
  case atStart => exact ⟨0, rfl, id⟩
  case round =>
    obtain ⟨pos, rfl, hall⟩ := hrel
    by_cases hp : pos < s.size
    · have hnx : ∀ ty, (Instr.next (.pointer (some ⟨w.heap.size, 0, none⟩)) true ty).run Tryz.prog (w.iter s pos) = _ := fun ty => run_next_any w s pos ty hp
      by_cases hlo : (Utf8.decode s pos).1 < 48
      · have hno : ¬ digFrom s 0 := fun h => by
          have h1 := h pos hp (Nat.zero_le _)
          rw [decode_ascii s pos hp (by omega)] at hlo
          have h2 : (s[pos]'hp).toNat < 48 := hlo
          omega
        have hlo' : (((Utf8.decode s pos).1 : Nat) : Int) < 48 := by omega
        clear hall
        go_wp2
        go_ret
        first | exact ⟨_, rfl, ⟨_, rfl, by simp [hno]⟩, below_iter s _⟩ | exact ⟨_, rfl, rfl, below_iter s _⟩
      · by_cases hhi : 57 < (Utf8.decode s pos).1
        · have hno : ¬ digFrom s 0 := fun h => by
            have h1 := h pos hp (Nat.zero_le _)
            rw [decode_ascii s pos hp (by omega)] at hhi
            have h2 : 57 < (s[pos]'hp).toNat := hhi
            omega
          have hlo' : ¬ (((Utf8.decode s pos).1 : Nat) : Int) < 48 := by omega
          have hhi' : 57 < (((Utf8.decode s pos).1 : Nat) : Int) := by omega
          clear hall hlo
          go_wp2
          go_ret
          first | exact ⟨_, rfl, ⟨_, rfl, by simp [hno]⟩, below_iter s _⟩ | exact ⟨_, rfl, rfl, below_iter s _⟩
        · have ha : (s[pos]'hp).toNat < 128 := by
            refine Decidable.byContradiction fun h => ?_
            have := (decode_high s pos hp (by omega)).1
            omega
          have hd := decode_ascii s pos hp ha
          rw [hd] at hlo hhi hnx
          have hlo2 : ¬ (s[pos]'hp).toNat < 48 := hlo
          have hhi2 : ¬ 57 < (s[pos]'hp).toNat := hhi
          have hlo' : ¬ (((s[pos]'hp).toNat : Nat) : Int) < 48 := by omega
          have hhi' : ¬ 57 < (((s[pos]'hp).toNat : Nat) : Int) := by omega
          have hst := fun h => hall (digFrom_step hp (by omega) (by omega) h)
          clear hall hlo hhi hlo2 hhi2 hd
          go_wp2
          go_roundw
          case rel => exact ⟨pos + 1, rfl, hst⟩
          case measure => simp; omega
    · have hnx : ∀ ty, (Instr.next (.pointer (some ⟨w.heap.size, 0, none⟩)) true ty).run Tryz.prog (w.iter s pos) = _ := fun ty => run_next_end w s pos ty hp
      have hyes : digFrom s 0 := hall (fun j hj hij => by omega)
      clear hall
      have e2 := empty_of s
      by_cases h0 : 0 < s.size
      · have h0' : (0 : Int) < (s.size : Int) := by omega
        rw [decide_eq_false (by omega)] at e2
        by_cases h48 : (s[0]'h0).toNat = 48
        · by_cases h1 : s.size = 1
          · have e1 := is_zero s h0 h48 h1
            have hr : ∃ h : 0 < s.size, ¬ ((s[0]'h).toNat = 48 ∧ 1 < s.size) := ⟨h0, fun h => by omega⟩
            clear e2 h0' h48 h1
            go_wp2
            go_ret
            exact ⟨_, rfl, ⟨_, rfl, iff_of_true rfl ⟨hyes, hr⟩⟩, below_iter s _⟩
          · have e1 := no_zero s (fun ⟨_, _, h⟩ => h1 h)
            have e3 : (((s[0]'h0).toNat : Int) != 48) = false := by simp [h48]
            have hr : ¬ ∃ h : 0 < s.size, ¬ ((s[0]'h).toNat = 48 ∧ 1 < s.size) := fun ⟨_, h⟩ => h ⟨h48, by omega⟩
            clear h48 h1
            go_wp2
            go_ret
            exact ⟨_, rfl, ⟨_, rfl, iff_of_false (fun h => by simp at h) fun h => hr h.2⟩, below_iter s _⟩
        · have e1 := no_zero s (fun ⟨_, h, _⟩ => h48 h)
          have e3 : (((s[0]'h0).toNat : Int) != 48) = true := by
            refine bne_iff_ne.2 ?_
            omega
          have hr : ∃ h : 0 < s.size, ¬ ((s[0]'h).toNat = 48 ∧ 1 < s.size) := ⟨h0, fun h => h48 h.1⟩
          clear h48
          go_wp2
          go_ret
          exact ⟨_, rfl, ⟨_, rfl, iff_of_true rfl ⟨hyes, hr⟩⟩, below_iter s _⟩
      · rw [decide_eq_true (by omega)] at e2
        have e1 := no_zero s (fun ⟨h, _, _⟩ => h0 h)
        have hr : ¬ ∃ h : 0 < s.size, ¬ ((s[0]'h).toNat = 48 ∧ 1 < s.size) := fun ⟨h, _⟩ => h0 h
        go_wp2
        go_ret
        exact ⟨_, rfl, ⟨_, rfl, iff_of_false (fun h => by simp at h) fun h => hr h.2⟩, below_iter s _⟩
end Go.Proofs.YtaafimabgcnbaaaGreatDoor
namespace Go.Proofs.YtaafimabgcnbaaaGreatDoor
open Go Go.Rx Go.RowKit Go.Big
attribute [local instance] noAv
/-- The text is that of an integer. -/
def RightD (s : ByteArray) : Prop := ∃ h : signAt s < s.size, ¬ ((s[signAt s]'h).toNat = 48 ∧ 1 < s.size) ∧ digFrom s (signAt s)
theorem right_yes {w : World} (s : ByteArray) (hs : s.size ≤ 1000000) (h : RightD s) : Calls Tryz.prog 39 #[.string s] w (Gets (fun _ r => r = .bool true) w) := by
  obtain ⟨h1, h2, h3⟩ := h
  refine (right_from s hs _ rfl h1 h2).mono ?_
  rintro e w' ⟨v, rfl, ⟨b, rfl, hb⟩, hB⟩
  exact ⟨_, rfl, by rw [hb.2 h3], hB⟩
theorem right_not {w : World} (s : ByteArray) (hs : s.size ≤ 1000000) (h : ¬ RightD s) : Calls Tryz.prog 39 #[.string s] w (Gets (fun _ r => r = .bool false) w) := by
  by_cases h1 : ∃ hlt : signAt s < s.size, ¬ ((s[signAt s]'hlt).toNat = 48 ∧ 1 < s.size)
  · obtain ⟨h1, h2⟩ := h1
    have h3 : ¬ digFrom s (signAt s) := fun h3 => h ⟨h1, h2, h3⟩
    refine (right_from s hs _ rfl h1 h2).mono ?_
    rintro e w' ⟨v, rfl, ⟨b, rfl, hb⟩, hB⟩
    refine ⟨_, rfl, ?_, hB⟩
    cases b with
    | false => rfl
    | true => exact absurd (hb.1 rfl) h3
  · refine right_no s hs fun hlt => ?_
    exact Classical.byContradiction fun h2 => h1 ⟨hlt, h2⟩
theorem right_num {s : ByteArray} (h : RightD s) : 0 < s.size ∧ numOk s := by
  obtain ⟨h1, -, h3⟩ := h
  refine ⟨by omega, fun j hj => ?_⟩
  by_cases hj0 : signAt s ≤ j
  · exact .inr (h3 j hj hj0)
  · have h0 : 0 < s.size := by omega
    have hs1 : signAt s = 1 ∧ (s[0]'h0).toNat = 45 := by
      unfold signAt at hj0 ⊢
      rw [dif_pos h0] at hj0 ⊢
      by_cases h45 : (s[0]'h0).toNat = 45
      · rw [if_pos h45]; exact ⟨rfl, h45⟩
      · rw [if_neg h45] at hj0; omega
    obtain rfl : j = 0 := by omega
    exact .inl hs1.2
theorem W0_eight : W 0 = .agg #[.int .u64 0, .int .u64 0, .int .u64 0, .int .u64 0, .int .u64 0, .int .u64 0, .int .u64 0, .int .u64 0] := by kernel_rfl
/-- What the text stands for. -/
def textZ (s : ByteArray) (h0 : 0 < s.size) : Int := sgz ((s[0]'h0).toNat == 45) ((numV s s.size : Nat) : Int)
set_option maxHeartbeats 1600000 in
set_option maxRecDepth 100000 in
theorem refParse_no {w : World} (s : ByteArray) (hs : s.size ≤ 1000000) (h : ¬ RightD s) : Calls Tryz.prog 9 #[.string s] w (Gets (fun _ r => r = .tuple #[W 0, .int .i64 5]) w) := by
  have hR := fun U => right_not (w := U) s hs h
  rw [W0_eight]
  have k0 := (MapKept.heap_alloc w (.cells #[.int .u64 0, .int .u64 0, .int .u64 0, .int .u64 0, .int .u64 0, .int .u64 0, .int .u64 0, .int .u64 0] 24)).1
  have bw : Below w.heap.size w (w.alloc (.cells #[.int .u64 0, .int .u64 0, .int .u64 0, .int .u64 0, .int .u64 0, .int .u64 0, .int .u64 0, .int .u64 0] 24)) := below_al (Below.refl _ _) _
  have hlt := (Array.getElem?_eq_some_iff.1 k0).1
  go_enter Tryz.func9, Tryz.ntmps9
  go_wp2_with fail
  generalize w.alloc (.cells #[.int .u64 0, .int .u64 0, .int .u64 0, .int .u64 0, .int .u64 0, .int .u64 0, .int .u64 0, .int .u64 0] 24) = w0 at *
  with_reducible refine (hR _).mono ?_
  rintro e w1 ⟨r, rfl, rfl, hb⟩
  have k1 := (hb.block w.heap.size hlt).trans k0
  obtain ⟨y0, y1, y2, y3, y4, y5, y6, y7, fz⟩ := eight_zero k1
  have hB : Below w.heap.size w w1 := bw.trans (hb.mono bw.size)
  clear hR h hb k0 k1
  go_wp2
  exact bodyPost_ret (v := .tuple #[.agg #[.int .u64 0, .int .u64 0, .int .u64 0, .int .u64 0, .int .u64 0, .int .u64 0, .int .u64 0, .int .u64 0], .int .i64 5]) (by simp [results, Tryz.results9, go_sem, y0, y1, y2, y3, y4, y5, y6, y7]) rfl ⟨_, rfl, rfl, below_set8 hB (Nat.le_refl _) _ _ _ _ _ _ _ _⟩
set_option maxHeartbeats 1600000 in
set_option maxRecDepth 100000 in
theorem refParse_long {w : World} (s : ByteArray) (hs : s.size ≤ 1000000) (h : RightD s) (hl : 200 < s.size) : Calls Tryz.prog 9 #[.string s] w (Gets (fun _ r => r = .tuple #[W 0, .int .i64 6]) w) := by
  have hR := fun U => right_yes (w := U) s hs h
  have hl' : (200 : Int) < (s.size : Int) := by omega
  rw [W0_eight]
  have k0 := (MapKept.heap_alloc w (.cells #[.int .u64 0, .int .u64 0, .int .u64 0, .int .u64 0, .int .u64 0, .int .u64 0, .int .u64 0, .int .u64 0] 24)).1
  have bw : Below w.heap.size w (w.alloc (.cells #[.int .u64 0, .int .u64 0, .int .u64 0, .int .u64 0, .int .u64 0, .int .u64 0, .int .u64 0, .int .u64 0] 24)) := below_al (Below.refl _ _) _
  have hlt := (Array.getElem?_eq_some_iff.1 k0).1
  go_enter Tryz.func9, Tryz.ntmps9
  go_wp2_with fail
  generalize w.alloc (.cells #[.int .u64 0, .int .u64 0, .int .u64 0, .int .u64 0, .int .u64 0, .int .u64 0, .int .u64 0, .int .u64 0] 24) = w0 at *
  with_reducible refine (hR _).mono ?_
  rintro e w1 ⟨r, rfl, rfl, hb⟩
  have k1 := (hb.block w.heap.size hlt).trans k0
  obtain ⟨y0, y1, y2, y3, y4, y5, y6, y7, fz⟩ := eight_zero k1
  have hB : Below w.heap.size w w1 := bw.trans (hb.mono bw.size)
  clear hR h hb k0 k1
  go_wp2
  exact bodyPost_ret (v := .tuple #[.agg #[.int .u64 0, .int .u64 0, .int .u64 0, .int .u64 0, .int .u64 0, .int .u64 0, .int .u64 0, .int .u64 0], .int .i64 6]) (by simp [results, Tryz.results9, go_sem, y0, y1, y2, y3, y4, y5, y6, y7]) rfl ⟨_, rfl, rfl, below_set8 hB (Nat.le_refl _) _ _ _ _ _ _ _ _⟩
set_option maxHeartbeats 1600000 in
set_option maxRecDepth 100000 in
theorem refParse_ok {w : World} (s : ByteArray) (h : RightD s) (hl : s.size ≤ 200) : Calls Tryz.prog 9 #[.string s] w (Gets (fun _ r => r = resV (textZ s (right_num h).1) (fit (textZ s (right_num h).1))) w) := by
  obtain ⟨h0, hok⟩ := right_num h
  have hR := fun U => right_yes (w := U) s (by omega) h
  have hl' : ¬ (200 : Int) < (s.size : Int) := by omega
  have hV := fun U => value_c (w := U) s hl h0 hok
  have hsz : small (textZ s h0) := by
    have := small_num hok (k := s.size) (by omega)
    unfold textZ sgz small at *
    split <;> omega
  show Calls Tryz.prog 9 #[.string s] w (Gets (fun _ r => r = resV (textZ s h0) (fit (textZ s h0))) w)
  change ∀ U, Calls Tryz.prog 41 #[.string s] U (Gets (fun w' r => LongV w' r (textZ s h0)) U) at hV
  generalize textZ s h0 = z at *
  obtain ⟨rr, ee, hr, hres⟩ := res_words z
  obtain ⟨z0, z1, z2, z3, z4, z5, z6, z7, -, -, hd⟩ := words_of hr
  have hout : ∀ U u, LongV U u z → Calls Tryz.prog 40 #[u] U (Gets (fun _ r => r = .tuple #[.agg #[.int .u64 z0, .int .u64 z1, .int .u64 z2, .int .u64 z3, .int .u64 z4, .int .u64 z5, .int .u64 z6, .int .u64 z7], .int .i64 ee]) U) := fun U u hu => by
    have := out_W hu hsz
    rw [hres, hd] at this
    exact this
  rw [hres, hd]
  clear hres hd hr
  have k0 := (MapKept.heap_alloc w (.cells #[.int .u64 0, .int .u64 0, .int .u64 0, .int .u64 0, .int .u64 0, .int .u64 0, .int .u64 0, .int .u64 0] 24)).1
  have bw : Below w.heap.size w (w.alloc (.cells #[.int .u64 0, .int .u64 0, .int .u64 0, .int .u64 0, .int .u64 0, .int .u64 0, .int .u64 0, .int .u64 0] 24)) := below_al (Below.refl _ _) _
  have hlt := (Array.getElem?_eq_some_iff.1 k0).1
  go_enter Tryz.func9, Tryz.ntmps9
  go_wp2_with fail
  generalize w.alloc (.cells #[.int .u64 0, .int .u64 0, .int .u64 0, .int .u64 0, .int .u64 0, .int .u64 0, .int .u64 0, .int .u64 0] 24) = w0 at *
  with_reducible refine (hR _).mono ?_
  rintro e w1 ⟨r, rfl, rfl, hb⟩
  have x1 := hb
  go_wp2_with fail
  with_reducible refine (hV _).mono ?_
  rintro e w2 ⟨d, rfl, hd2, hb2⟩
  have x2 := next0' x1 hb2
  go_wp2_with fail
  with_reducible refine (hout _ _ hd2).mono ?_
  rintro e w3 ⟨r3, rfl, rfl, hb3⟩
  have x3 := next0' x2 hb3
  have k1 := (x3.block w.heap.size hlt).trans k0
  obtain ⟨y0, y1, y2, y3, y4, y5, y6, y7, fz⟩ := eight_zero k1
  have hB : Below w.heap.size w w3 := bw.trans (x3.mono bw.size)
  have hsz3 : w.heap.size < w3.heap.size := Nat.lt_of_lt_of_le hlt x3.size
  clear hR h hb hb2 hb3 x1 x2 x3 hd2 hV hout k0 k1
  go_wp2
  exact bodyPost_ret (v := .tuple #[.agg #[.int .u64 z0, .int .u64 z1, .int .u64 z2, .int .u64 z3, .int .u64 z4, .int .u64 z5, .int .u64 z6, .int .u64 z7], .int .i64 ee]) (by simp [results, Tryz.results9, go_sem, y0, y1, y2, y3, y4, y5, y6, y7]) rfl ⟨_, rfl, rfl, below_set8 hB (Nat.le_refl _) _ _ _ _ _ _ _ _⟩
end Go.Proofs.YtaafimabgcnbaaaGreatDoor
