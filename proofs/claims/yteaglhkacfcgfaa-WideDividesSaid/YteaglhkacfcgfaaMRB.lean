/-
  Lehmer's step: reduce, for every value.
-/
import Derived.Test.YteaglhkacfcgfaaMRA
import Derived.Test.YteaglhkacfcgfaaMPA
set_option linter.all false
namespace Go.Proofs.Yteaglhkacfcgfaa
open Go Go.Rx Go.RowKit Go.Big
structure LS where
  a : Nat
  b : Nat
  us : Nat
  vs : Nat
  ul : Nat
  vl : Nat
  un : Nat
  vn : Nat
  neg : Bool
def lehStep (s : LS) : LS := ⟨s.b, s.a % s.b, s.ul, s.vl, s.un, s.vn, s.ul + s.a / s.b * s.un, s.vl + s.a / s.b * s.vn, !s.neg⟩
def lehCond (s : LS) : Prop := s.vn ≤ s.b ∧ s.vl + s.vn ≤ s.a - s.b
instance (s : LS) : Decidable (lehCond s) := inferInstanceAs (Decidable (_ ∧ _))
def lehEnd : Nat → LS → LS
  | 0, s => s
  | k + 1, s => if lehCond s then lehEnd k (lehStep s) else s
structure GoodS (a0 b0 : Nat) (s : LS) : Prop where
  leh : LehK a0 b0 s.a s.b s.ul s.vl s.un s.vn s.neg
  sure : s.vs = 0 ∨ SureK a0 b0 s.a s.us s.vs s.ul s.vl s.neg
  us : s.us < 18446744073709551616
  vs : s.vs < 18446744073709551616
  ul : s.ul < 18446744073709551616
  vl : s.vl < 18446744073709551616
  un : s.un < 18446744073709551616
  vn : s.vn < 18446744073709551616
theorem GoodS.ab {a0 b0 : Nat} {s : LS} (h : GoodS a0 b0 s) : s.b ≤ s.a ∧ s.a < 18446744073709551616 := by have := h.leh.ab; omega
theorem GoodS.step {a0 b0 : Nat} {s : LS} (h : GoodS a0 b0 s) (ha : a0 < 18446744073709551616) (hc : lehCond s) :
    GoodS a0 b0 (lehStep s) ∧ 0 < s.b ∧ s.a / s.b < 18446744073709551616 ∧ s.a / s.b * s.un < 18446744073709551616 ∧ s.a / s.b * s.vn < 18446744073709551616 ∧ s.ul + s.a / s.b * s.un < 18446744073709551616 ∧ s.vl + s.a / s.b * s.vn < 18446744073709551616 := by
  obtain ⟨c1, c2⟩ := hc
  obtain ⟨q1, q2⟩ := h.ab
  have hv := h.leh.p
  obtain ⟨k1, k2, k3, k4, k5, k6, k7⟩ := h.leh.step (by omega) (by omega) (by omega)
  have e1 : ((s.a : Int) / s.b) = ((s.a / s.b : Nat) : Int) := (Int.natCast_ediv _ _).symm
  have e2 : ((s.a : Int) % s.b) = ((s.a % s.b : Nat) : Int) := (Int.natCast_emod _ _).symm
  have e3 : ((s.a / s.b : Nat) : Int) * s.un = ((s.a / s.b * s.un : Nat) : Int) := (Int.natCast_mul _ _).symm
  have e4 : ((s.a / s.b : Nat) : Int) * s.vn = ((s.a / s.b * s.vn : Nat) : Int) := (Int.natCast_mul _ _).symm
  rw [e1, e2, e3, e4, ← Int.natCast_add, ← Int.natCast_add] at k1
  rw [e1] at k3
  rw [e1, e3] at k4
  rw [e1, e4] at k5
  rw [e1, e3] at k6
  rw [e1, e4] at k7
  have u1 := h.ul; have u2 := h.vl; have u3 := h.un; have u4 := h.vn
  refine ⟨⟨k1, .inr k2, u1, u2, u3, u4, ?_, ?_⟩, by omega, by omega, by omega, by omega, by omega, by omega⟩
  · show s.ul + s.a / s.b * s.un < 18446744073709551616; omega
  · show s.vl + s.a / s.b * s.vn < 18446744073709551616; omega
theorem leh_end {a0 b0 : Nat} (ha : a0 < 18446744073709551616) : ∀ (k : Nat) (s : LS), GoodS a0 b0 s → s.b < k → GoodS a0 b0 (lehEnd k s) ∧ ¬ lehCond (lehEnd k s)
  | 0, s, _, h => absurd h (Nat.not_lt_zero _)
  | k + 1, s, hg, h => by
    unfold lehEnd
    split
    · rename_i hc
      obtain ⟨g1, g2, -⟩ := hg.step ha hc
      have : (lehStep s).b < k := by
        show s.a % s.b < k
        have := Nat.mod_lt s.a g2
        omega
      exact leh_end ha k _ g1 this
    · rename_i hc
      exact ⟨hg, hc⟩
/-! ### The code of reduce -/
def nthC : Nat → Code → Code
  | 0, c => c1 c
  | k + 1, c => nthC k (c2 c)
noncomputable def b92 : Code := Try.f92.body.getD .skip
noncomputable def b92l : List Code := [nthC 0 b92, nthC 1 b92, nthC 2 b92, nthC 3 b92, nthC 4 b92, nthC 5 b92]
noncomputable def b92d : Code := c1 (c1 (nthC 6 b92))
noncomputable def b92e : Code := c2 (c2 (c2 (c2 (c2 (c2 (c2 b92))))))
theorem b92_eq : Try.f92.body = some (seqs b92l (.seq (.block 0 (.loop b92d)) b92e)) := by kernel_rfl
def lnC (i j : Nat) : List C := [.ex .u64 (wdE i), .ex .u64 (wdE j)]
def liC (u v : Int) : List C := [.v (.int .u64 u), .v (.int .u64 v)]
def bxQ (l9 l10 l11 : List C) : List BoxD := [⟨2, (inN 0).cells, 75⟩, ⟨3, (inN 1).cells, 75⟩, ⟨4, z8.cells, 75⟩, ⟨5, z8.cells, 75⟩, ⟨9, l9, 126⟩, ⟨10, l10, 126⟩, ⟨11, l11, 126⟩]
def vsQ (v7 v8 : V) (neg : Bool) : List (Nat × V) := [(7, v7), (8, v8), (12, .s (b1 neg))]
def shE : Exp := .bin .sub .i64 (wdE 10) (.lit 64)
def rowsQ0 : List Row := [⟨84, [inN 0], .s (.one (.ex .i64 (wdE 10)))⟩, ⟨87, [inN 0, .one (.ex .i64 shE)], .s (inN 11)⟩, ⟨87, [inN 1, .one (.ex .i64 shE)], .s (inN 12)⟩]
theorem red_a (σ : Nat → Int) (o : Nat → V) : fragS (envS σ rowsQ0 []) 200 b92l 92 [] [(0, .s (inN 0)), (1, .s (inN 1))] o (bxQ (liC 0 0) (liC 1 0) (liC 0 1)) (vsQ (.s (x1 (wdE 11))) (.s (x1 (wdE 12))) true) = true := by kernel_rfl
def t1E (r : Bool) : Test := ⟨.geq, wdE 3, wdE 9, r⟩
def t2E (r : Bool) : Test := ⟨.geq, .bin .sub .u64 (wdE 2) (wdE 3), .bin .add .u64 (wdE 7) (wdE 9), r⟩
def t3E : Test := ⟨.neq, wdE 3, .lit 0, true⟩
def qE : Exp := .bin .quo .u64 (wdE 2) (wdE 3)
def nxC : List C := [.ex .u64 (.bin .add .u64 (wdE 6) (.bin .mul .u64 qE (wdE 8))), .ex .u64 (.bin .add .u64 (wdE 7) (.bin .mul .u64 qE (wdE 9)))]
def rmE : Exp := .bin .rem .u64 (wdE 2) (wdE 3)
theorem red_d (σ : Nat → Int) (neg : Bool) (o : Nat → V) : fragX (envS σ [] [t1E true, t2E true, t3E]) 200 b92d 92 (bxQ (lnC 4 5) (lnC 6 7) (lnC 8 9)) (vsQ (.s (x1 (wdE 2))) (.s (x1 (wdE 3))) neg) o .normal (bxQ (lnC 6 7) (lnC 8 9) nxC) (vsQ (.s (x1 (wdE 3))) (.s (x1 rmE)) (!neg)) = true := by
  cases neg <;> kernel_rfl
theorem red_o1 (σ : Nat → Int) (neg : Bool) (o : Nat → V) : fragX (envS σ [] [t1E false]) 200 b92d 92 (bxQ (lnC 4 5) (lnC 6 7) (lnC 8 9)) (vsQ (.s (x1 (wdE 2))) (.s (x1 (wdE 3))) neg) o (.exit 0) (bxQ (lnC 4 5) (lnC 6 7) (lnC 8 9)) (vsQ (.s (x1 (wdE 2))) (.s (x1 (wdE 3))) neg) = true := by
  cases neg <;> kernel_rfl
theorem red_o2 (σ : Nat → Int) (neg : Bool) (o : Nat → V) : fragX (envS σ [] [t1E true, t2E false]) 200 b92d 92 (bxQ (lnC 4 5) (lnC 6 7) (lnC 8 9)) (vsQ (.s (x1 (wdE 2))) (.s (x1 (wdE 3))) neg) o (.exit 0) (bxQ (lnC 4 5) (lnC 6 7) (lnC 8 9)) (vsQ (.s (x1 (wdE 2))) (.s (x1 (wdE 3))) neg) = true := by
  cases neg <;> kernel_rfl
def t5E (r : Bool) : Test := ⟨.eql, wdE 5, .lit 0, r⟩
theorem red_e1 (σ : Nat → Int) (neg : Bool) (o : Nat → V) : fragE (envS σ [⟨85, [inN 0, inN 1], .tup [inN 14, inN 13]⟩] [t5E true]) 200 b92e Try.f92 (bxQ (lnC 4 5) (lnC 6 7) (lnC 8 9)) (vsQ (.s (x1 (wdE 2))) (.s (x1 (wdE 3))) neg) o (.tup [inN 1, inN 13]) = true := by
  cases neg <;> kernel_rfl
theorem red_e2 (σ : Nat → Int) (neg : Bool) (o : Nat → V) : fragE (envS σ [⟨105, [lnN 4 5, inN 0, inN 1, b1 neg], .s (inN 13)⟩, ⟨105, [lnN 6 7, inN 0, inN 1, b1 (!neg)], .s (inN 14)⟩] [t5E false]) 200 b92e Try.f92 (bxQ (lnC 4 5) (lnC 6 7) (lnC 8 9)) (vsQ (.s (x1 (wdE 2))) (.s (x1 (wdE 3))) neg) o (.tup [inN 13, inN 14]) = true := by
  cases neg <;> kernel_rfl
/-! ### The loop -/
def gS (m n : Nat) (s : LS) (r1 r2 : Nat) : Nat → Nat := lst [m, n, s.a, s.b, s.us, s.vs, s.ul, s.vl, s.un, s.vn, 0, 0, 0, r1, r2]
theorem cells_ln {g : Nat → Nat} {i j u v : Nat} (hi : g i = u) (hj : g j = v) (hu : u < 18446744073709551616) (hv : v < 18446744073709551616) : (lnC i j).map (valC (sigN g)) = [.int .u64 u, .int .u64 v] := by
  show [Value.int .u64 ((Exp.inp .u64 (8 * i + 0)).eval (sigN g)), Value.int .u64 ((Exp.inp .u64 (8 * j + 0)).eval (sigN g))] = _
  rw [low_inp' hi hu, low_inp' hj hv]
theorem to_state {W : World} {g : Nat → Nat} {m n r1 r2 : Nat} {l9 l10 l11 : List C} {v7 v8 : V} {s : LS} {a : Act} {w : World} (h : LInv W 92 (sigN g) (bxQ l9 l10 l11) (vsQ v7 v8 s.neg) a w) (g0 : g 0 = m) (g1 : g 1 = n)
    (hab : s.b ≤ s.a ∧ s.a < 18446744073709551616) (w1 : s.us < 18446744073709551616) (w2 : s.vs < 18446744073709551616) (w3 : s.ul < 18446744073709551616) (w4 : s.vl < 18446744073709551616) (w5 : s.un < 18446744073709551616) (w6 : s.vn < 18446744073709551616)
    (e9 : l9.map (valC (sigN g)) = [.int .u64 s.us, .int .u64 s.vs]) (e10 : l10.map (valC (sigN g)) = [.int .u64 s.ul, .int .u64 s.vl]) (e11 : l11.map (valC (sigN g)) = [.int .u64 s.un, .int .u64 s.vn])
    (e7 : valV (sigN g) v7 = .int .u64 s.a) (e8 : valV (sigN g) v8 = .int .u64 s.b) : LInv W 92 (sigN (gS m n s r1 r2)) (bxQ (lnC 4 5) (lnC 6 7) (lnC 8 9)) (vsQ (.s (x1 (wdE 2))) (.s (x1 (wdE 3))) s.neg) a w := by
  refine h.turn (.cons ⟨rfl, rfl, by rw [cells_val, cells_val, g0]; rfl⟩ (.cons ⟨rfl, rfl, by rw [cells_val, cells_val, g1]; rfl⟩ (.cons ⟨rfl, rfl, by rw [cells_z8, cells_z8]⟩ (.cons ⟨rfl, rfl, by rw [cells_z8, cells_z8]⟩ (.cons ⟨rfl, rfl, by rw [e9]; exact cells_ln rfl rfl w1 w2⟩ (.cons ⟨rfl, rfl, by rw [e10]; exact cells_ln rfl rfl w3 w4⟩ (.cons ⟨rfl, rfl, by rw [e11]; exact cells_ln rfl rfl w5 w6⟩ .nil))))))) (fun p hp => ?_)
  simp only [vsQ, List.mem_cons, List.not_mem_nil, or_false] at hp
  rcases hp with rfl | rfl | rfl
  · refine ⟨(7, v7), by simp [vsQ], rfl, ?_⟩
    rw [e7]
    show Value.int .u64 ((wdE 2).eval (sigN (gS m n s r1 r2))) = _
    rw [show (wdE 2).eval (sigN (gS m n s r1 r2)) = (s.a : Int) from low_inp' rfl hab.2]
  · refine ⟨(8, v8), by simp [vsQ], rfl, ?_⟩
    rw [e8]
    show Value.int .u64 ((wdE 3).eval (sigN (gS m n s r1 r2))) = _
    rw [show (wdE 3).eval (sigN (gS m n s r1 r2)) = (s.b : Int) from low_inp' rfl (by omega)]
  · exact ⟨(12, .s (b1 s.neg)), by simp [vsQ], rfl, rfl⟩
def redI (W : World) (m n a0 b0 : Nat) (fin : LS) (p : LS × Nat) (a : Act) (w : World) : Prop :=
  (GoodS a0 b0 p.1 ∧ lehEnd p.2 p.1 = fin ∧ p.1.b < p.2) ∧ LInv W 92 (sigN (gS m n p.1 0 0)) (bxQ (lnC 4 5) (lnC 6 7) (lnC 8 9)) (vsQ (.s (x1 (wdE 2))) (.s (x1 (wdE 3))) p.1.neg) a w
theorem red_loop {W : World} {m n a0 b0 : Nat} (ha : a0 < 18446744073709551616) {fin : LS} {Q : Exit → Act → World → Prop} (hfin : ∀ a w, GoodS a0 b0 fin → LInv W 92 (sigN (gS m n fin 0 0)) (bxQ (lnC 4 5) (lnC 6 7) (lnC 8 9)) (vsQ (.s (x1 (wdE 2))) (.s (x1 (wdE 3))) fin.neg) a w → Q .normal a w)
    {p : LS × Nat} {a : Act} {w : World} (h : redI W m n a0 b0 fin p a w) : (Code.block 0 (.loop b92d)).wp Try.prog Q a w := by
  refine wp_block (loop_ind (redI W m n a0 b0 fin) (fun p => p.2) ?_ (x := p) h)
  clear h
  rintro ⟨s, k⟩ a w ⟨⟨hg, hend, hk⟩, hI⟩
  simp only at hg hend hk hI
  obtain ⟨k, rfl⟩ : ∃ j, k = j + 1 := ⟨k - 1, by omega⟩
  obtain ⟨q1, q2⟩ := hg.ab
  have ea : (wdE 2).eval (sigN (gS m n s 0 0)) = (s.a : Int) := low_inp' rfl q2
  have eb : (wdE 3).eval (sigN (gS m n s 0 0)) = (s.b : Int) := low_inp' rfl (by omega)
  have eul : (wdE 6).eval (sigN (gS m n s 0 0)) = (s.ul : Int) := low_inp' rfl hg.ul
  have evl : (wdE 7).eval (sigN (gS m n s 0 0)) = (s.vl : Int) := low_inp' rfl hg.vl
  have eun : (wdE 8).eval (sigN (gS m n s 0 0)) = (s.un : Int) := low_inp' rfl hg.un
  have evn : (wdE 9).eval (sigN (gS m n s 0 0)) = (s.vn : Int) := low_inp' rfl hg.vn
  have esub : (Exp.bin .sub .u64 (wdE 2) (wdE 3)).eval (sigN (gS m n s 0 0)) = ((s.a - s.b : Nat) : Int) := by
    show IntKind.u64.wrap ((wdE 2).eval (sigN (gS m n s 0 0)) - (wdE 3).eval (sigN (gS m n s 0 0))) = _
    rw [ea, eb, wrap_u64]; omega
  have T1 : TestOk (sigN (gS m n s 0 0)) (t1E (decide (s.vn ≤ s.b))) := fun kk => by
    show some (Value.bool (decide ((wdE 3).eval (sigN (gS m n s 0 0)) ≥ (wdE 9).eval (sigN (gS m n s 0 0))))) = some (.bool (decide (s.vn ≤ s.b)))
    rw [eb, evn]
    congr 2
    rw [decide_eq_decide]; omega
  have T2 : s.vn ≤ s.b → TestOk (sigN (gS m n s 0 0)) (t2E (decide (s.vl + s.vn ≤ s.a - s.b))) := fun hc kk => by
    have hp := hg.leh.p
    have h1 := hg.leh.h1
    have hsum : s.vl + s.vn < 18446744073709551616 := by
      have m1 : (s.vn : Int) * 1 ≤ s.vn * s.a := Int.mul_le_mul_of_nonneg_left (by omega) (by omega)
      have m2 : (s.vl : Int) * 1 ≤ s.vl * s.b := Int.mul_le_mul_of_nonneg_left (by omega) (by omega)
      omega
    have eadd : (Exp.bin .add .u64 (wdE 7) (wdE 9)).eval (sigN (gS m n s 0 0)) = ((s.vl + s.vn : Nat) : Int) := by
      show IntKind.u64.wrap ((wdE 7).eval (sigN (gS m n s 0 0)) + (wdE 9).eval (sigN (gS m n s 0 0))) = _
      rw [evl, evn, wrap_u64]; omega
    show some (Value.bool (decide ((Exp.bin .sub .u64 (wdE 2) (wdE 3)).eval (sigN (gS m n s 0 0)) ≥ (Exp.bin .add .u64 (wdE 7) (wdE 9)).eval (sigN (gS m n s 0 0))))) = some (.bool (decide (s.vl + s.vn ≤ s.a - s.b)))
    rw [esub, eadd]
    congr 2
    rw [decide_eq_decide]; omega
  by_cases hc1 : s.vn ≤ s.b
  · by_cases hc2 : s.vl + s.vn ≤ s.a - s.b
    · rw [decide_eq_true hc1] at T1
      have T2 := T2 hc1
      rw [decide_eq_true hc2] at T2
      obtain ⟨hg', hb, hq, m1, m2, a1, a2⟩ := hg.step ha ⟨hc1, hc2⟩
      have T3 : TestOk (sigN (gS m n s 0 0)) t3E := fun kk => by
        show some (Value.bool ((wdE 3).eval (sigN (gS m n s 0 0)) != 0)) = some (.bool true)
        rw [eb]
        congr 2
        rw [bne_iff_ne]; omega
      have hend' : lehEnd k (lehStep s) = fin := by
        rw [← hend]
        show _ = if lehCond s then _ else _
        rw [if_pos ⟨hc1, hc2⟩]
      have hlt := Nat.mod_lt s.a hb
      refine frag (E := envS (sigN (gS m n s 0 0)) [] _) (envS_ok no_row (fun q hq => ?_) W) (red_d _ s.neg) hI fun a w' hI => ?_
      · simp only [List.mem_cons, List.not_mem_nil, or_false] at hq
        rcases hq with rfl | rfl | rfl
        · exact T1
        · exact T2
        · exact T3
      · refine ⟨(lehStep s, k), ⟨⟨hg', hend', by show s.a % s.b < k; omega⟩, ?_⟩, Nat.lt_succ_self _⟩
        have eq : qE.eval (sigN (gS m n s 0 0)) = ((s.a / s.b : Nat) : Int) := by
          show numOf (intBin .quo .u64 ((wdE 2).eval (sigN (gS m n s 0 0))) ((wdE 3).eval (sigN (gS m n s 0 0)))) = _
          rw [ea, eb]
          unfold intBin
          rw [if_neg (by omega)]
          show IntKind.u64.wrap (Int.tdiv (s.a : Int) (s.b : Int)) = _
          have hql := Nat.div_le_self s.a s.b
          have hab := hg.ab
          rw [Int.tdiv_eq_ediv_of_nonneg (by omega), ← Int.natCast_ediv, wrap_u64]
          generalize s.a / s.b = q at hql ⊢
          omega
        have er : rmE.eval (sigN (gS m n s 0 0)) = ((s.a % s.b : Nat) : Int) := by
          show numOf (intBin .rem .u64 ((wdE 2).eval (sigN (gS m n s 0 0))) ((wdE 3).eval (sigN (gS m n s 0 0)))) = _
          rw [ea, eb]
          unfold intBin
          simp only []
          rw [if_neg (by omega)]
          show Int.tmod (s.a : Int) (s.b : Int) = _
          rw [Int.tmod_eq_emod_of_nonneg (by omega)]; rfl
        have ex : ∀ (e1 e2 : Exp) (u v : Nat), e1.eval (sigN (gS m n s 0 0)) = (u : Int) → e2.eval (sigN (gS m n s 0 0)) = (v : Int) → s.a / s.b * v < 18446744073709551616 → u + s.a / s.b * v < 18446744073709551616 → (Exp.bin .add .u64 e1 (.bin .mul .u64 qE e2)).eval (sigN (gS m n s 0 0)) = ((u + s.a / s.b * v : Nat) : Int) := by
          intro e1 e2 u v h1 h2 h3 h4
          show IntKind.u64.wrap (e1.eval (sigN (gS m n s 0 0)) + IntKind.u64.wrap (qE.eval (sigN (gS m n s 0 0)) * e2.eval (sigN (gS m n s 0 0)))) = _
          rw [h1, h2, eq, ← Int.natCast_mul, wrap_u64, wrap_u64]; omega
        refine to_state (s := lehStep s) hI rfl rfl ⟨Nat.le_of_lt hlt, by show s.b < 18446744073709551616; omega⟩ hg.ul hg.vl hg.un hg.vn a1 a2 (cells_ln rfl rfl hg.ul hg.vl) (cells_ln rfl rfl hg.un hg.vn) ?_ ?_ ?_
        · show [Value.int .u64 _, Value.int .u64 _] = _
          rw [ex (wdE 6) (wdE 8) s.ul s.un eul eun m1 a1, ex (wdE 7) (wdE 9) s.vl s.vn evl evn m2 a2]; rfl
        · show Value.int .u64 ((wdE 3).eval (sigN (gS m n s 0 0))) = _
          rw [eb]; rfl
        · show Value.int .u64 (rmE.eval (sigN (gS m n s 0 0))) = _
          rw [er]; rfl
    · have hs : s = fin := by
        rw [← hend]
        show _ = if lehCond s then _ else _
        rw [if_neg (fun h => hc2 h.2)]
      subst hs
      rw [decide_eq_true hc1] at T1
      have T2 := T2 hc1
      rw [decide_eq_false hc2] at T2
      refine frag (E := envS (sigN (gS m n s 0 0)) [] _) (envS_ok no_row (fun q hq => ?_) W) (red_o2 _ s.neg) hI fun a w' hI => ?_
      · simp only [List.mem_cons, List.not_mem_nil, or_false] at hq
        rcases hq with rfl | rfl
        · exact T1
        · exact T2
      · simp only [exOf, Exit.then, Exit.inBlock, if_true]
        exact hfin a w' hg hI
  · have hs : s = fin := by
      rw [← hend]
      show _ = if lehCond s then _ else _
      rw [if_neg (fun h => hc1 h.1)]
    subst hs
    rw [decide_eq_false hc1] at T1
    refine frag (E := envS (sigN (gS m n s 0 0)) [] _) (envS_ok no_row (one_test T1) W) (red_o1 _ s.neg) hI fun a w' hI => ?_
    simp only [exOf, Exit.then, Exit.inBlock, if_true]
    exact hfin a w' hg hI
/-! ### reduce -/
theorem gcd_red {m n m' n' : Nat} (h : ∀ d : Int, d ∣ (m' : Int) ∧ d ∣ (n' : Int) ↔ d ∣ (m : Int) ∧ d ∣ (n : Int)) : Nat.gcd m' n' = Nat.gcd m n := by
  apply Nat.dvd_antisymm
  · obtain ⟨a, b⟩ := (h (Nat.gcd m' n' : Nat)).1 ⟨Int.natCast_dvd_natCast.2 (Nat.gcd_dvd_left _ _), Int.natCast_dvd_natCast.2 (Nat.gcd_dvd_right _ _)⟩
    exact Nat.dvd_gcd (Int.natCast_dvd_natCast.1 a) (Int.natCast_dvd_natCast.1 b)
  · obtain ⟨a, b⟩ := (h (Nat.gcd m n : Nat)).2 ⟨Int.natCast_dvd_natCast.2 (Nat.gcd_dvd_left _ _), Int.natCast_dvd_natCast.2 (Nat.gcd_dvd_right _ _)⟩
    exact Nat.dvd_gcd (Int.natCast_dvd_natCast.1 a) (Int.natCast_dvd_natCast.1 b)
theorem f_reduce {m n : Nat} (hm : m < 13407807929942597099574024998205846127479365820592393377723561443721764030073546976801874298166903427690031858186486050853753882811946569946433649006084096) (hnm : n ≤ m) (hn : 18446744073709551616 ≤ n) : ∃ m' n' : Nat, n' < m' ∧ m' ≤ n ∧ Nat.gcd m' n' = Nat.gcd m n ∧ Gives Try.prog 92 [magV m, magV n] (.tuple #[magV m', magV n']) := by
  obtain ⟨k, hk, ⟨hk1, hk2, hk3⟩, hbits⟩ := f_bits m hm (by omega)
  have hk65 : 65 ≤ k := by
    rcases Nat.lt_or_ge k 65 with h | h
    · exfalso
      have h1 : 2 ^ k ≤ 2 ^ 64 := Nat.pow_le_pow_right (by decide) (by omega)
      rw [show (2 : Nat) ^ 64 = 18446744073709551616 by decide] at h1
      omega
    · exact h
  obtain ⟨sh, rfl⟩ : ∃ sh, k = sh + 64 := ⟨k - 64, by omega⟩
  have hS : 0 < 2 ^ sh := Nat.two_pow_pos sh
  have ha0 : m / 2 ^ sh < 18446744073709551616 := by
    apply Nat.div_lt_of_lt_mul
    rw [← show (2 : Nat) ^ 64 = 18446744073709551616 by decide, ← Nat.pow_add]; exact hk3
  have hb0 : n / 2 ^ sh ≤ m / 2 ^ sh := Nat.div_le_div_right hnm
  have hdm := Nat.div_add_mod m (2 ^ sh)
  have hdn := Nat.div_add_mod n (2 ^ sh)
  have hrm := Nat.mod_lt m hS
  have hrn := Nat.mod_lt n hS
  -- the end of the loop
  have g0 : GoodS (m / 2 ^ sh) (n / 2 ^ sh) ⟨m / 2 ^ sh, n / 2 ^ sh, 0, 0, 1, 0, 0, 1, true⟩ := ⟨LehK.init ⟨Int.natCast_nonneg _, Int.ofNat_le.2 hb0, Int.ofNat_lt.2 ha0⟩, .inl rfl, show (0 : Nat) < 18446744073709551616 by decide, show (0 : Nat) < 18446744073709551616 by decide, show (1 : Nat) < 18446744073709551616 by decide, show (0 : Nat) < 18446744073709551616 by decide, show (0 : Nat) < 18446744073709551616 by decide, show (1 : Nat) < 18446744073709551616 by decide⟩
  obtain ⟨gf, -⟩ := leh_end ha0 (n / 2 ^ sh + 1) _ g0 (Nat.lt_succ_self _)
  obtain ⟨fin, hfin⟩ : ∃ fin, lehEnd (n / 2 ^ sh + 1) ⟨m / 2 ^ sh, n / 2 ^ sh, 0, 0, 1, 0, 0, 1, true⟩ = fin := ⟨_, rfl⟩
  rw [hfin] at gf
  have hnP : n < 13407807929942597099574024998205846127479365820592393377723561443721764030073546976801874298166903427690031858186486050853753882811946569946433649006084096 := by omega
  -- what is handed back
  obtain ⟨m', n', c1, c2, c3, hend⟩ : ∃ m' n' : Nat, n' < m' ∧ m' ≤ n ∧ Nat.gcd m' n' = Nat.gcd m n ∧ ∀ (w : World) a w', LInv w 92 (sigN (gS m n fin 0 0)) (bxQ (lnC 4 5) (lnC 6 7) (lnC 8 9)) (vsQ (.s (x1 (wdE 2))) (.s (x1 (wdE 3))) fin.neg) a w' → b92e.wp Try.prog (bodyPost Try.prog Try.f92 (@Gets (fun _ r' => r' = .tuple #[magV m', magV n']) w)) a w' := by
    have hgo : ∀ (r1 r2 : Nat) {w : World} {a : Act} {w' : World}, LInv w 92 (sigN (gS m n fin 0 0)) (bxQ (lnC 4 5) (lnC 6 7) (lnC 8 9)) (vsQ (.s (x1 (wdE 2))) (.s (x1 (wdE 3))) fin.neg) a w' → LInv w 92 (sigN (gS m n fin r1 r2)) (bxQ (lnC 4 5) (lnC 6 7) (lnC 8 9)) (vsQ (.s (x1 (wdE 2))) (.s (x1 (wdE 3))) fin.neg) a w' := by
      intro r1 r2 w a w' h
      refine to_state (s := fin) h rfl rfl gf.ab gf.us gf.vs gf.ul gf.vl gf.un gf.vn (cells_ln rfl rfl gf.us gf.vs) (cells_ln rfl rfl gf.ul gf.vl) (cells_ln rfl rfl gf.un gf.vn) ?_ ?_
      · show Value.int .u64 ((wdE 2).eval (sigN (gS m n fin 0 0))) = _
        rw [show (wdE 2).eval (sigN (gS m n fin 0 0)) = (fin.a : Int) from low_inp' rfl gf.ab.2]
      · show Value.int .u64 ((wdE 3).eval (sigN (gS m n fin 0 0))) = _
        rw [show (wdE 3).eval (sigN (gS m n fin 0 0)) = (fin.b : Int) from low_inp' rfl (by have := gf.ab; omega)]
    have evs : ∀ r1 r2, (wdE 5).eval (sigN (gS m n fin r1 r2)) = (fin.vs : Int) := fun r1 r2 => low_inp' rfl gf.vs
    by_cases hvs : fin.vs = 0
    · refine ⟨n, m % n, Nat.mod_lt _ (by omega), Nat.le_refl _, ?_, fun w a w' hI => ?_⟩
      · rw [Nat.gcd_comm n, ← Nat.gcd_rec, Nat.gcd_comm]
      · have k1 : RowGives Try.prog (sigN (gS m n fin (m % n) (m / n))) ⟨85, [inN 0, inN 1], .tup [inN 14, inN 13]⟩ := by
          refine ⟨rfl, ?_⟩
          simp only [List.map_cons, List.map_nil, val_inN, valV_tup2]
          exact f_divideG m n hm ⟨by omega, hnP⟩
        have T : TestOk (sigN (gS m n fin (m % n) (m / n))) (t5E true) := fun kk => by
          show some (Value.bool ((wdE 5).eval (sigN (gS m n fin (m % n) (m / n))) == 0)) = some (.bool true)
          rw [evs, hvs]; rfl
        refine frag_end (E := envS (sigN (gS m n fin (m % n) (m / n))) _ _) (envS_ok (one_row k1) (one_test T) w) (fn := Try.f92) (red_e1 _ fin.neg) (hgo (m % n) (m / n) hI) (R := @Gets (fun _ r' => r' = .tuple #[magV n, magV (m % n)]) w) (fun w' hb => ⟨_, rfl, ?_, hb⟩) (fun a w h => h)
        show valV (sigN (gS m n fin (m % n) (m / n))) (.tup [inN 1, inN 13]) = _
        rw [valV_tup2, val_inN, val_inN]; rfl
    · have hsure : SureK (m / 2 ^ sh : Nat) (n / 2 ^ sh : Nat) fin.a fin.us fin.vs fin.ul fin.vl fin.neg := by
        rcases gf.sure with h | h
        · exact absurd h hvs
        · exact h
      obtain ⟨M, N, hM, hN, hR⟩ := hsure.red (m := m) (n := n) (S := (2 ^ sh : Nat)) (A := (m % 2 ^ sh : Nat)) (B := (n % 2 ^ sh : Nat)) (by omega) (by rw [← Int.natCast_mul, ← Int.natCast_add, Nat.mul_comm]; omega) (by rw [← Int.natCast_mul, ← Int.natCast_add, Nat.mul_comm]; omega) ⟨by omega, by omega⟩ ⟨by omega, by omega⟩
      obtain ⟨l1, l2, l3⟩ := hR.lt
      obtain ⟨m', rfl⟩ := Int.eq_ofNat_of_zero_le (show 0 ≤ M by omega)
      obtain ⟨n', rfl⟩ := Int.eq_ofNat_of_zero_le l1
      refine ⟨m', n', by omega, by omega, gcd_red hR.dvd, fun w a w' hI => ?_⟩
      have p1 : ((fin.vs : Int)) * n = ((n * fin.vs : Nat) : Int) := by rw [Int.natCast_mul, Int.mul_comm]
      have p2 : ((fin.us : Int)) * m = ((m * fin.us : Nat) : Int) := by rw [Int.natCast_mul, Int.mul_comm]
      have p3 : ((fin.vl : Int)) * n = ((n * fin.vl : Nat) : Int) := by rw [Int.natCast_mul, Int.mul_comm]
      have p4 : ((fin.ul : Int)) * m = ((m * fin.ul : Nat) : Int) := by rw [Int.natCast_mul, Int.mul_comm]
      rw [p1, p2] at hM
      rw [p3, p4] at hN
      have k1 : RowGives Try.prog (sigN (gS m n fin m' n')) ⟨105, [lnN 4 5, inN 0, inN 1, b1 fin.neg], .s (inN 13)⟩ := by
        refine ⟨by cases fin.neg <;> rfl, ?_⟩
        simp only [List.map_cons, List.map_nil, val_inN, valV_s, val_b1]
        rw [val_ln (g := gS m n fin m' n') (i := 4) (j := 5) rfl rfl gf.us gf.vs]
        refine f_remainder fin.neg hm hnP gf.us gf.vs ?_
        cases hneg : fin.neg with
        | true => rw [hneg] at hM; simp at hM ⊢; show n * fin.vs = m * fin.us + m'; omega
        | false => rw [hneg] at hM; simp at hM ⊢; show m * fin.us = n * fin.vs + m'; omega
      have k2 : RowGives Try.prog (sigN (gS m n fin m' n')) ⟨105, [lnN 6 7, inN 0, inN 1, b1 (!fin.neg)], .s (inN 14)⟩ := by
        refine ⟨by cases fin.neg <;> rfl, ?_⟩
        simp only [List.map_cons, List.map_nil, val_inN, valV_s, val_b1]
        rw [val_ln (g := gS m n fin m' n') (i := 6) (j := 7) rfl rfl gf.ul gf.vl]
        refine f_remainder (!fin.neg) hm hnP gf.ul gf.vl ?_
        cases hneg : fin.neg with
        | true => rw [hneg] at hN; simp at hN ⊢; show m * fin.ul = n * fin.vl + n'; omega
        | false => rw [hneg] at hN; simp at hN ⊢; show n * fin.vl = m * fin.ul + n'; omega
      have T : TestOk (sigN (gS m n fin m' n')) (t5E false) := fun kk => by
        show some (Value.bool ((wdE 5).eval (sigN (gS m n fin m' n')) == 0)) = some (.bool false)
        rw [evs]
        congr 2
        rw [beq_eq_false_iff_ne]; omega
      refine frag_end (E := envS (sigN (gS m n fin m' n')) _ _) (envS_ok (more_row k1 (one_row k2)) (one_test T) w) (fn := Try.f92) (red_e2 _ fin.neg) (hgo m' n' hI) (R := @Gets (fun _ r' => r' = .tuple #[magV m', magV n']) w) (fun w' hb => ⟨_, rfl, ?_, hb⟩) (fun a w h => h)
      show valV (sigN (gS m n fin m' n')) (.tup [inN 13, inN 14]) = _
      rw [valV_tup2, val_inN, val_inN]; rfl
  refine ⟨m', n', c1, c2, c3, ?_⟩
  refine gives_of (enters_of Try.func92 (by kernel_rfl) rfl) fun w => ?_
  have key : ∀ (g : Nat → Nat) (a : Act) (w' : World), g 0 = m → g 1 = n → g 10 = sh + 64 → g 11 = m / 2 ^ sh → g 12 = n / 2 ^ sh → LInv w 92 (sigN g) [] [(0, .s (inN 0)), (1, .s (inN 1))] a w' → (seqs b92l (.seq (.block 0 (.loop b92d)) b92e)).wp Try.prog (bodyPost Try.prog Try.f92 (@Gets (fun _ r' => r' = .tuple #[magV m', magV n']) w)) a w' := by
    intro g a w' g0' g1' g10 g11 g12 hI
    have e10 : (wdE 10).eval (sigN g) = ((sh + 64 : Nat) : Int) := low_inp' g10 (by omega)
    have esh : shE.eval (sigN g) = ((sh : Nat) : Int) := by
      show IntKind.i64.wrap ((wdE 10).eval (sigN g) - 64) = _
      rw [e10, wrap_i64 _ (by omega)]; omega
    have k1 : RowGives Try.prog (sigN g) ⟨84, [inN 0], .s (.one (.ex .i64 (wdE 10)))⟩ := by
      refine ⟨rfl, ?_⟩
      simp only [List.map_cons, List.map_nil, val_inN, valV_s, g0']
      show Gives Try.prog 84 [magV m] (.int .i64 ((wdE 10).eval (sigN g)))
      rw [e10]; exact hbits
    have k2 : RowGives Try.prog (sigN g) ⟨87, [inN 0, .one (.ex .i64 shE)], .s (inN 11)⟩ := by
      refine ⟨rfl, ?_⟩
      simp only [List.map_cons, List.map_nil, val_inN, valV_s, g0', g11]
      show Gives Try.prog 87 [magV m, .int .i64 (shE.eval (sigN g))] _
      rw [esh]; exact f_right m sh (by omega) hm
    have k3 : RowGives Try.prog (sigN g) ⟨87, [inN 1, .one (.ex .i64 shE)], .s (inN 12)⟩ := by
      refine ⟨rfl, ?_⟩
      simp only [List.map_cons, List.map_nil, val_inN, valV_s, g1', g12]
      show Gives Try.prog 87 [magV n, .int .i64 (shE.eval (sigN g))] _
      rw [esh]; exact f_right n sh (by omega) hnP
    refine frags (E := envS (sigN g) rowsQ0 []) (envS_ok (more_row k1 (more_row k2 (one_row k3))) no_test w) (red_a _) hI fun a w' hI => ?_
    have hI : LInv w 92 (sigN (gS m n ⟨m / 2 ^ sh, n / 2 ^ sh, 0, 0, 1, 0, 0, 1, true⟩ 0 0)) (bxQ (lnC 4 5) (lnC 6 7) (lnC 8 9)) (vsQ (.s (x1 (wdE 2))) (.s (x1 (wdE 3))) true) a w' := by
      refine to_state (s := ⟨m / 2 ^ sh, n / 2 ^ sh, 0, 0, 1, 0, 0, 1, true⟩) hI g0' g1' ⟨hb0, ha0⟩ (show (0 : Nat) < 18446744073709551616 by decide) (show (0 : Nat) < 18446744073709551616 by decide) (show (1 : Nat) < 18446744073709551616 by decide) (show (0 : Nat) < 18446744073709551616 by decide) (show (0 : Nat) < 18446744073709551616 by decide) (show (1 : Nat) < 18446744073709551616 by decide) rfl rfl rfl ?_ ?_
      · show Value.int .u64 ((wdE 11).eval (sigN g)) = _
        rw [show (wdE 11).eval (sigN g) = ((m / 2 ^ sh : Nat) : Int) from low_inp' g11 ha0]
      · show Value.int .u64 ((wdE 12).eval (sigN g)) = _
        rw [show (wdE 12).eval (sigN g) = ((n / 2 ^ sh : Nat) : Int) from low_inp' g12 (by omega)]
    exact wp_seq (red_loop ha0 (fun a w' _ hI => hend w a w' hI) (p := (⟨m / 2 ^ sh, n / 2 ^ sh, 0, 0, 1, 0, 0, 1, true⟩, n / 2 ^ sh + 1)) ⟨⟨g0, hfin, Nat.lt_succ_self _⟩, hI⟩)
  have := enter_inv (P := Try.prog) (f := 92) (fn := Try.f92) Try.func92 b92_eq (l := [inN 0, inN 1]) (by kernel_rfl) (sigN (lst [m, n, 0, 0, 0, 0, 0, 0, 0, 0, sh + 64, m / 2 ^ sh, n / 2 ^ sh])) (w := w) (R := @Gets (fun _ r' => r' = .tuple #[magV m', magV n']) w) (fun a hI => key _ a w rfl rfl rfl rfl rfl hI)
  rwa [show [inN 0, inN 1].map (val1 (sigN (lst [m, n, 0, 0, 0, 0, 0, 0, 0, 0, sh + 64, m / 2 ^ sh, n / 2 ^ sh]))) = [magV m, magV n] by simp only [List.map_cons, List.map_nil, val_inN]; rfl] at this
end Go.Proofs.Yteaglhkacfcgfaa
