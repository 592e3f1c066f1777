/-
  Contracts of package wide, for every value: Of and Int.
  Contracts of the reference: Wide, and of the laws: pairs.
-/
import Derived.Test.YtfeapgpjchjphaaGreatMO
import Derived.Test.YtfeapgpjchjphaaGreatMQ
set_option linter.all false
namespace Go.Proofs.YtfeapgpjchjphaaGreat
open Go Go.Rx Go.RowKit Go.Big
def ofTests (b : Bool) : List Test := [⟨.lss, .inp .i64 0, .lit 0, b⟩]
def ofC (b : Bool) : C := .v (.int .u64 (if b then 18446744073709551615 else 0))
def ofE (b : Bool) : V1 := .agg [.ex .u64 (.wrap .u64 (.inp .i64 0)), ofC b, ofC b, ofC b, ofC b, ofC b, ofC b, ofC b]
theorem of_runB (σ : Nat → Int) (b : Bool) : runs σ [] (ofTests b) ⟨17, [e1 .i64 0], .s (ofE b)⟩ 400 = true := by cases b <;> kernel_rfl
theorem W_of (n : Int) (h0 : -9223372036854775808 ≤ n) (h1 : n ≤ 9223372036854775807) (f : Int) (hf : f = if n < 0 then 18446744073709551615 else 0) :
    W n = .agg #[.int .u64 (n % 18446744073709551616), .int .u64 f, .int .u64 f, .int .u64 f, .int .u64 f, .int .u64 f, .int .u64 f, .int .u64 f] := by
  have hg : wgood [n % 18446744073709551616, f, f, f, f, f, f, f] := by
    intro y hy
    simp only [List.mem_cons, List.not_mem_nil, or_false] at hy
    rcases hy with rfl | rfl | rfl | rfl | rfl | rfl | rfl | rfl <;> first | omega | (rw [hf]; split <;> omega)
  have e7 : [n % 18446744073709551616, f, f, f, f, f, f, f].getD 7 0 = f := rfl
  have h := (W_words rfl hg).1
  have hw : wint [n % 18446744073709551616, f, f, f, f, f, f, f] = n := by
    unfold wint
    rw [e7]
    simp only [wval]
    by_cases hn : n < 0
    · rw [if_pos hn] at hf
      subst hf
      rw [if_neg (by decide)]
      omega
    · rw [if_neg hn] at hf
      subst hf
      rw [if_pos (by decide)]
      omega
  rw [hw] at h
  exact h
/-- Of. -/
theorem f_Of (n : Int) (h0 : -9223372036854775808 ≤ n) (h1 : n ≤ 9223372036854775807) : Gives Tryz.prog 17 [.int .i64 n] (W n) := by
  have en : (Exp.inp .i64 0).eval (fun _ => n) = n := wrap_i64 n (by omega)
  have ht : ∀ t ∈ ofTests (decide (n < 0)), TestOk (fun _ => n) t := by
    intro t ht k
    simp only [ofTests, List.mem_cons, List.not_mem_nil, or_false] at ht
    subst ht
    simp only [intBin, en]
    rfl
  have := run_gives (fun _ => n) [] _ no_row ht ⟨17, [e1 .i64 0], _⟩ 400 (fun σ => of_runB σ (decide (n < 0)))
  have ew : (Exp.wrap .u64 (Exp.inp .i64 0)).eval (fun _ => n) = n % 18446744073709551616 := by
    show IntKind.u64.wrap ((Exp.inp .i64 0).eval (fun _ => n)) = _
    rw [en, wrap_u64]
  simp only [List.map_cons, List.map_nil, val1, valC, e1, valV, ofE, ofC, en, ew] at this
  rw [W_of n h0 h1 _ rfl]
  by_cases hn : n < 0
  · simp only [hn, decide_true, if_true] at this ⊢
    exact this
  · simp only [hn, decide_false, if_false] at this ⊢
    exact this
def lowE : V1 := .one (.ex .i64 (.wrap .i64 (.inp .u64 0)))
def intRow : Row := ⟨17, [lowE], .s (inN 1)⟩
def eqT (b0 b1 b2 b3 b4 b5 b6 b7 : Bool) : List Test := [⟨.eql, .inp .u64 8, .inp .u64 0, b0⟩, ⟨.eql, .inp .u64 9, .inp .u64 1, b1⟩, ⟨.eql, .inp .u64 10, .inp .u64 2, b2⟩, ⟨.eql, .inp .u64 11, .inp .u64 3, b3⟩, ⟨.eql, .inp .u64 12, .inp .u64 4, b4⟩, ⟨.eql, .inp .u64 13, .inp .u64 5, b5⟩, ⟨.eql, .inp .u64 14, .inp .u64 6, b6⟩, ⟨.eql, .inp .u64 15, .inp .u64 7, b7⟩]
def intAns : Bool → V
  | true => .tup [lowE, i1 0]
  | false => .tup [i1 0, i1 6]
theorem low_dig (x : Int) : (dig (un x) 0 : Int) = x % 18446744073709551616 := by
  have h : un x = (x % P512).toNat := rfl
  have hd : dig (un x) 0 = un x % 18446744073709551616 := by unfold dig; rw [Nat.mul_zero, Nat.pow_zero, Nat.div_one]
  rw [hd, h]
  unfold P512
  omega
theorem W_digs {m x : Int} (g0 : dig (un m) 0 = dig (un x) 0) (g1 : dig (un m) 1 = dig (un x) 1) (g2 : dig (un m) 2 = dig (un x) 2) (g3 : dig (un m) 3 = dig (un x) 3) (g4 : dig (un m) 4 = dig (un x) 4) (g5 : dig (un m) 5 = dig (un x) 5) (g6 : dig (un m) 6 = dig (un x) 6) (g7 : dig (un m) 7 = dig (un x) 7) : W m = W x := by
  unfold W magV
  rw [g0, g1, g2, g3, g4, g5, g6, g7]
theorem low_row {x m : Int} (hm0 : -9223372036854775808 ≤ m) (hm1 : m ≤ 9223372036854775807) (el : val1 (sigN (two2 (un x) (un m))) lowE = .int .i64 m) : RowGives Tryz.prog (sigN (two2 (un x) (un m))) intRow := by
  refine ⟨rfl, ?_⟩
  have h := f_Of m hm0 hm1
  simp only [intRow, List.map_cons, List.map_nil, el, valV_s, val_inN]
  exact h
theorem low_eval {x m : Int} (hm : (if (dig (un x) 0 : Int) < 9223372036854775808 then (dig (un x) 0 : Int) else (dig (un x) 0 : Int) - 18446744073709551616) = m) : val1 (sigN (two2 (un x) (un m))) lowE = .int .i64 m := by
  have hd := dig_lt (un x) 0
  have h := inp_sigN (two2 (un x) (un m)) 0 0 (by decide)
  have h' : (Exp.wrap .i64 (Exp.inp .u64 0)).eval (sigN (two2 (un x) (un m))) = m := by
    show IntKind.i64.wrap ((Exp.inp .u64 (8 * 0 + 0)).eval (sigN (two2 (un x) (un m)))) = m
    rw [h]
    show IntKind.i64.wrap (dig (un x) 0 : Int) = m
    rw [wrap_i64w _ (by omega), hm]
  exact congrArg (Value.int .i64) h'
theorem word_eq (m n : Nat) : ((m : Int) == (n : Int)) = decide (m = n) := by
  rw [Bool.eq_iff_iff]; simp only [beq_iff_eq, decide_eq_true_eq]; omega
theorem low_tests (x m : Int) : ∀ t ∈ eqT (decide (dig (un m) 0 = dig (un x) 0)) (decide (dig (un m) 1 = dig (un x) 1)) (decide (dig (un m) 2 = dig (un x) 2)) (decide (dig (un m) 3 = dig (un x) 3)) (decide (dig (un m) 4 = dig (un x) 4)) (decide (dig (un m) 5 = dig (un x) 5)) (decide (dig (un m) 6 = dig (un x) 6)) (decide (dig (un m) 7 = dig (un x) 7)), TestOk (sigN (two2 (un x) (un m))) t := by
  have et : ∀ i, i < 8 → (Exp.inp .u64 (8 + i)).eval (sigN (two2 (un x) (un m))) = dig (un m) i := fun i hi => inp_sigN (two2 (un x) (un m)) 1 i hi
  have eu : ∀ i, i < 8 → (Exp.inp .u64 i).eval (sigN (two2 (un x) (un m))) = dig (un x) i := fun i hi => by
    have := inp_sigN (two2 (un x) (un m)) 0 i hi
    rwa [show 8 * 0 + i = i by omega] at this
  intro t ht k
  simp only [eqT, List.mem_cons, List.not_mem_nil, or_false] at ht
  rcases ht with rfl | rfl | rfl | rfl | rfl | rfl | rfl | rfl
  · simp only [intBin, et 0 (by decide), eu 0 (by decide), word_eq]
  · simp only [intBin, et 1 (by decide), eu 1 (by decide), word_eq]
  · simp only [intBin, et 2 (by decide), eu 2 (by decide), word_eq]
  · simp only [intBin, et 3 (by decide), eu 3 (by decide), word_eq]
  · simp only [intBin, et 4 (by decide), eu 4 (by decide), word_eq]
  · simp only [intBin, et 5 (by decide), eu 5 (by decide), word_eq]
  · simp only [intBin, et 6 (by decide), eu 6 (by decide), word_eq]
  · simp only [intBin, et 7 (by decide), eu 7 (by decide), word_eq]
end Go.Proofs.YtfeapgpjchjphaaGreat
namespace Go.Proofs.YtfeapgpjchjphaaGreat
open Go Go.RowKit Go.Big
attribute [local instance] noAv
/-- What a draft may be. -/
structure DraftOk (w : World) (bv : Value) (bits : List Int) (l : Int) : Prop where
  row : RowK .u16 w bv bits
  u16 : ∀ x ∈ bits, 0 ≤ x ∧ x < 65536
  len : bits.length ≤ 9223372036854775807
  l0 : 0 ≤ l
  l1 : l < 4294967296
theorem DraftOk.below {w w' : World} {bv : Value} {bits : List Int} {l : Int} (h : DraftOk w bv bits l) (hb : Below w.heap.size w w') : DraftOk w' bv bits l := ⟨h.row.below hb, h.u16, h.len, h.l0, h.l1⟩
theorem eight_zero {W : World} {b : Nat} {t : TypeId} (k : W.heap[b]? = some (.cells #[.int .u64 0, .int .u64 0, .int .u64 0, .int .u64 0, .int .u64 0, .int .u64 0, .int .u64 0, .int .u64 0] t)) :
    W.cell? ⟨b, 0, none⟩ = some (.int .u64 0) ∧ W.cell? ⟨b, 1, none⟩ = some (.int .u64 0) ∧ W.cell? ⟨b, 2, none⟩ = some (.int .u64 0) ∧ W.cell? ⟨b, 3, none⟩ = some (.int .u64 0) ∧ W.cell? ⟨b, 4, none⟩ = some (.int .u64 0) ∧ W.cell? ⟨b, 5, none⟩ = some (.int .u64 0) ∧ W.cell? ⟨b, 6, none⟩ = some (.int .u64 0) ∧ W.cell? ⟨b, 7, none⟩ = some (.int .u64 0) ∧ ∀ j, W.frozen? ⟨b, j, none⟩ = false :=
  ⟨(cellOf k).trans rfl, (cellOf k).trans rfl, (cellOf k).trans rfl, (cellOf k).trans rfl, (cellOf k).trans rfl, (cellOf k).trans rfl, (cellOf k).trans rfl, (cellOf k).trans rfl, fun _ => frozenOf k⟩
set_option maxHeartbeats 400000 in
set_option maxRecDepth 100000 in
theorem draftWide_c {w : World} {bv : Value} {b : Bool} {l : Int} {bits : List Int} (h : DraftOk w bv bits l) : Calls Tryz.prog 8 #[.agg #[.bool b, bv, .int .u32 l]] w (Gets (fun _ r => AnyW r) w) := by
  have h' := h
  obtain ⟨hrow, hu, hbl, hl0, hl1⟩ := h'
  obtain ⟨ba, bc, rfl, hbc⟩ := hrow.len
  have b0 := fun o1 o2 : Obj => Below.refl (w.heap.size + 1 + 1) ((w.alloc o1).alloc o2)
  go_enter Tryz.func8, Tryz.ntmps8
  go_wp2_with fail
  refine (within_c 511 (.inl rfl) (hrow.below (below2 (b0 _ _))) hu hbl hl0 hl1).mono ?_
  rintro e w1 ⟨r, rfl, ⟨x, hx, rfl⟩, hb⟩
  obtain ⟨a0, a1, a2, a3, a4, a5, a6, a7, -, -, he⟩ := words_of hx
  rw [he]
  have b1 := next2 (b0 _ _) hb
  obtain ⟨y0, y1, y2, y3, y4, y5, y6, y7, fz⟩ := eight_zero ((b1.block (w.heap.size + 1) (by omega)).trans (heap2 w _ _).2)
  have hB := below2 b1
  have hsz : w.heap.size + 1 < w1.heap.size := by have := b1.size; simp at this; omega
  clear hb b1 b0
  go_wp2
  exact bodyPost_ret (v := .agg #[.int .u64 a0, .int .u64 a1, .int .u64 a2, .int .u64 a3, .int .u64 a4, .int .u64 a5, .int .u64 a6, .int .u64 a7]) (by simp [results, Tryz.results8, go_sem, y0, y1, y2, y3, y4, y5, y6, y7]) rfl ⟨_, rfl, ⟨x, hx, he.symm⟩, below_set8 hB (by omega) _ _ _ _ _ _ _ _⟩
end Go.Proofs.YtfeapgpjchjphaaGreat
