/-
  wide.Root and wide.Pow, for every value; the reference's Small.
-/
import Derived.Test.YtedhjlkidcojhaaMQC
import Derived.Test.YtedhjlkidcojhaaMZZ
set_option linter.all false
namespace Go.Proofs.Ytedhjlkidcojhaa
open Go Go.Rx Go.RowKit Go.Big
theorem natAbs_un {x : Int} (h : fit x) (h0 : 0 ≤ x) : un x = x.natAbs := by have := un_pos h h0; omega
theorem un_nat {n : Nat} (h : n < 13407807929942597099574024998205846127479365820592393377723561443721764030073546976801874298166903427690031858186486050853753882811946569946433649006084096) : un (n : Int) = n := by
  have hp := p512_nat
  unfold un P512; omega
theorem rootP_run (σ : Nat → Int) (s : Int) (h : s = 0 ∨ s = 1) : runs σ [⟨21, [inN 0], .s (i1 s)⟩, ⟨45, [inN 0], .s (inN 1)⟩] [] ⟨12, [inN 0], .tup [inN 1, i1 0]⟩ 100 = true := by
  rcases h with rfl | rfl <;> kernel_rfl
theorem rootN_run (σ : Nat → Int) : runs σ [⟨21, [inN 0], .s (i1 (-1))⟩] [] ⟨12, [inN 0], .tup [z8, i1 2]⟩ 100 = true := by kernel_rfl
/-- Root of what is not negative. -/
theorem f_Root (x : Int) (hx : fit x) (h0 : 0 ≤ x) {r : Nat} (h1 : r * r ≤ un x) (h2 : un x < (r + 1) * (r + 1)) : Gives Try.prog 12 [W x] (outV r) := by
  have hs : cmpI x 0 = 0 ∨ cmpI x 0 = 1 := by
    unfold cmpI
    rw [if_neg (by omega)]
    split
    · exact .inr rfl
    · exact .inl rfl
  have hr : r < 13407807929942597099574024998205846127479365820592393377723561443721764030073546976801874298166903427690031858186486050853753882811946569946433649006084096 := by
    have hm := un_lt x
    rcases Nat.eq_zero_or_pos r with h | h
    · omega
    · have := Nat.mul_le_mul_left r h
      omega
  have g0 : lst [un x, r] 0 = un x := rfl
  have g1 : lst [un x, r] 1 = un (r : Int) := by rw [un_nat hr]; rfl
  have k1 : RowGives Try.prog (sigN (lst [un x, r])) ⟨21, [inN 0], .s (i1 (cmpI x 0))⟩ :=
    row_of (f_Sign x hx) rfl (by simp only [List.map_cons, List.map_nil, val_W _ 0 g0]) (by rw [valV_s, val_i1])
  have k2 : RowGives Try.prog (sigN (lst [un x, r])) ⟨45, [inN 0], .s (inN 1)⟩ := by
    refine ⟨rfl, ?_⟩
    simp only [List.map_cons, List.map_nil, val_inN, valV_s]
    exact f_root (un_lt x) h1 h2
  have := run_gives _ _ [] (more_row k1 (one_row k2)) no_test _ 100 (fun σ => rootP_run σ _ hs)
  simp only [List.map_cons, List.map_nil, valV_tup2, val_W _ 0 g0, val_W _ 1 g1, val_i1] at this
  exact this
/-- Root of what is negative. -/
theorem f_RootN (x : Int) (hx : fit x) (h0 : x < 0) : Gives Try.prog 12 [W x] (.tuple #[W 0, .int .i64 2]) := by
  have g0 : lst [un x] 0 = un x := rfl
  have k1 : RowGives Try.prog (sigN (lst [un x])) ⟨21, [inN 0], .s (i1 (-1))⟩ := by
    refine row_of (f_Sign x hx) rfl (by simp only [List.map_cons, List.map_nil, val_W _ 0 g0]) ?_
    rw [valV_s, val_i1]
    congr 1
    unfold cmpI; rw [if_pos h0]
  have := run_gives _ _ [] (one_row k1) no_test _ 100 rootN_run
  simp only [List.map_cons, List.map_nil, valV_tup2, val_W _ 0 g0, val_Z, val_i1] at this
  exact this
def powT : List Test := [⟨.lss, .inp .u64 (8 * 2 + 0), .lit 0, false⟩, ⟨.gtr, .inp .u64 (8 * 2 + 0), .lit 600, false⟩]
theorem Pow_run (σ : Nat → Int) (b c f : Bool) (e : Int) (h : e = 0 ∨ e = 6) : runs σ [⟨39, [inN 0], .s (sgN 1 b)⟩, ⟨40, [sgN 1 b, nE], .tup [sgN 3 c, b1 f]⟩, ⟨38, [sgN 3 c, b1 f], .tup [inN 4, i1 e]⟩] powT ⟨10, [inN 0, nE], .tup [inN 4, i1 e]⟩ 100 = true := by
  rcases h with rfl | rfl <;> cases b <;> cases c <;> cases f <;> kernel_rfl
/-- Pow, where the exponent is in range. -/
theorem f_Pow (x : Int) (hx : fit x) (n : Nat) (hn : n ≤ 600) : Gives Try.prog 10 [W x, .int .i64 n] (resV (x ^ n) (fit (x ^ n))) := by
  have hp : x.natAbs < 13407807929942597099574024998205846127479365820592393377723561443721764030073546976801874298166903427690031858186486050853753882811946569946433649006084096 := by
    have hp := p512_nat
    unfold fit P511 at hx; omega
  obtain ⟨q, c, f, hq, s1, s2, hg⟩ := f_power (b := decide (x < 0)) hp hn
  have hres : (if f = true ∧ fit (sg q c) then outV (sg q c) else bigV) = resV (x ^ n) (fit (x ^ n)) := by
    cases f with
    | true =>
      obtain ⟨rfl, rfl⟩ := s1 rfl
      have e : sg (x.natAbs ^ n) (decide (x < 0) && decide (n % 2 = 1)) = x ^ n := by rw [sg_pow, sg_abs]
      rw [e]
      unfold resV
      by_cases hf : fit (x ^ n)
      · rw [if_pos ⟨rfl, hf⟩, if_pos hf]
      · rw [if_neg (fun h => hf h.2), if_neg hf]
    | false =>
      have h := s2 rfl
      rw [if_neg (fun h => by cases h.1)]
      unfold resV
      rw [if_neg]
      intro hf
      have e : (x ^ n).natAbs = x.natAbs ^ n := Int.natAbs_pow x n
      rw [← e] at h
      unfold fit P511 at hf
      omega
  rw [← hres]
  have hr := f_wideOf q c f hq
  have : ∃ (r e : Int), (e = 0 ∨ e = 6) ∧ (if f = true ∧ fit (sg q c) then outV (sg q c) else bigV) = .tuple #[W r, .int .i64 e] := by
    split
    · exact ⟨_, 0, .inl rfl, rfl⟩
    · exact ⟨_, 6, .inr rfl, rfl⟩
  obtain ⟨r, e, he, hre⟩ := this
  rw [hre] at hr ⊢
  have g0 : lst [un x, x.natAbs, n, q, un r] 0 = un x := rfl
  have g1 : lst [un x, x.natAbs, n, q, un r] 1 = x.natAbs := rfl
  have g2 : lst [un x, x.natAbs, n, q, un r] 2 = n := rfl
  have g3 : lst [un x, x.natAbs, n, q, un r] 3 = q := rfl
  have g4 : lst [un x, x.natAbs, n, q, un r] 4 = un r := rfl
  generalize lst [un x, x.natAbs, n, q, un r] = g at *
  have en : (Exp.inp .u64 (8 * 2 + 0)).eval (sigN g) = (n : Int) := by
    have e := inp_sigN g 2 0 (by decide)
    rw [g2, (dig_low (show n < 18446744073709551616 by omega)).1] at e
    exact e
  have vn : val1 (sigN g) nE = .int .i64 n := by
    show Value.int .i64 ((Exp.inp .u64 (8 * 2 + 0)).eval (sigN g)) = _
    rw [en]
  have k1 : RowGives Try.prog (sigN g) ⟨39, [inN 0], .s (sgN 1 (decide (x < 0)))⟩ := by
    refine row_of (f_signedOf x hx) (by cases decide (x < 0) <;> rfl) (by simp only [List.map_cons, List.map_nil, val_W _ 0 g0]) ?_
    rw [valV_s, val_sgN, g1]
  have k2 : RowGives Try.prog (sigN g) ⟨40, [sgN 1 (decide (x < 0)), nE], .tup [sgN 3 c, b1 f]⟩ := by
    refine row_of hg (by cases decide (x < 0) <;> cases c <;> cases f <;> rfl) (by simp only [List.map_cons, List.map_nil, val_sgN, vn, g1]) ?_
    rw [valV_tup2, val_sgN, val_b1, g3]
  have k3 : RowGives Try.prog (sigN g) ⟨38, [sgN 3 c, b1 f], .tup [inN 4, i1 e]⟩ := by
    refine row_of hr (by cases c <;> cases f <;> rfl) (by simp only [List.map_cons, List.map_nil, val_sgN, val_b1, g3]) ?_
    rw [valV_tup2, val_W _ 4 g4, val_i1]
  have ht : ∀ t ∈ powT, TestOk (sigN g) t := by
    intro t ht k
    simp only [powT, List.mem_cons, List.not_mem_nil, or_false] at ht
    rcases ht with rfl | rfl
    · show some (Value.bool (decide ((Exp.inp .u64 (8 * 2 + 0)).eval (sigN g) < 0))) = some (.bool false)
      rw [en, decide_eq_false (by omega)]
    · show some (Value.bool (decide ((Exp.inp .u64 (8 * 2 + 0)).eval (sigN g) > 600))) = some (.bool false)
      rw [en, decide_eq_false (by omega)]
  have := run_gives _ _ powT (more_row k1 (more_row k2 (one_row k3))) ht _ 100 (fun σ => Pow_run σ _ c f e he)
  simp only [List.map_cons, List.map_nil, valV_tup2, val_W _ 0 g0, val_W _ 4 g4, vn, val_i1] at this
  exact this
/-! ### Small -/
attribute [local instance] noAv
set_option maxRecDepth 100000 in
theorem small_c {w : World} {a : Option Addr} {n c : Nat} {b : Bool} {l : Int} (hl0 : 0 ≤ l) (_hl1 : l < 4294967296) : Calls Try.prog 27 #[.agg #[.bool b, .slice a n c, .int .u32 l]] w (Gets (fun _ r => r = .int .i64 (if b = true then -(l % 1000001) else l % 1000001)) w) := by
  have k0 := (MapKept.heap_alloc w (.cells #[.bool b, .slice a n c, .int .u32 l] 28)).1
  have c0 : (w.alloc (.cells #[.bool b, .slice a n c, .int .u32 l] 28)).cell? ⟨w.heap.size, 0, none⟩ = some (.bool b) := (cellOf (j := 0) k0).trans rfl
  have c2 : (w.alloc (.cells #[.bool b, .slice a n c, .int .u32 l] 28)).cell? ⟨w.heap.size, 2, none⟩ = some (.int .u32 l) := (cellOf (j := 2) k0).trans rfl
  have e1 : l.tmod 1000001 = l % 1000001 := Int.tmod_eq_emod_of_nonneg hl0
  have e2 : 0 ≤ l % 1000001 ∧ l % 1000001 < 1000001 := by omega
  have B : Below w.heap.size w (w.alloc (.cells #[.bool b, .slice a n c, .int .u32 l] 28)) := (Below.refl _ w).alloc (Nat.le_refl _) _
  generalize hq : l % 1000001 = q at *
  have e3 : IntKind.i64.wrap q = q := wrap_i64 q (by omega)
  have e4 : IntKind.i64.wrap (-q) = -q := wrap_i64 (-q) (by omega)
  clear hq k0
  go_enter Try.func27, Try.ntmps27
  cases b with
  | true =>
    go_wp2
    go_ret
    exact ⟨_, rfl, rfl, B⟩
  | false =>
    go_wp2
    go_ret
    exact ⟨_, rfl, rfl, B⟩
end Go.Proofs.Ytedhjlkidcojhaa
