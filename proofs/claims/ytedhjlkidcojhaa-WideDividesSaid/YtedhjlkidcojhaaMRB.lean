/-
  Lehmer's step: reduce, for every value.
-/
import Derived.Test.YtedhjlkidcojhaaMRA
import Derived.Test.YtedhjlkidcojhaaMPA
set_option linter.all false
namespace Go.Proofs.Ytedhjlkidcojhaa
open Go Go.Rx Go.RowKit Go.Big
structure LS where
  a : Nat
  b : Nat
  us : Nat
  vs : Nat
  ul : Nat
  vl : Nat
  un : Nat
  vn : Nat
  neg : Bool
  nf : Bool
def lehStep (s : LS) : LS := ⟨s.b, s.a % s.b, s.ul, s.vl, s.un, s.vn, s.ul + s.a / s.b * s.un, s.vl + s.a / s.b * s.vn, !s.neg, !s.neg⟩
def lehCond (s : LS) : Prop := s.vn ≤ s.b ∧ s.vl + s.vn ≤ s.a - s.b
instance (s : LS) : Decidable (lehCond s) := inferInstanceAs (Decidable (_ ∧ _))
def lehEnd : Nat → LS → LS
  | 0, s => s
  | k + 1, s => if lehCond s then lehEnd k (lehStep s) else s
structure GoodS (a0 b0 : Nat) (s : LS) : Prop where
  leh : LehK a0 b0 s.a s.b s.ul s.vl s.un s.vn s.neg
  sure : s.vs = 0 ∨ SureK a0 b0 s.a s.us s.vs s.ul s.vl s.neg
  us : s.us < 18446744073709551616
  vs : s.vs < 18446744073709551616
  ul : s.ul < 18446744073709551616
  vl : s.vl < 18446744073709551616
  un : s.un < 18446744073709551616
  vn : s.vn < 18446744073709551616
  nf : s.vs = 0 ∨ s.nf = s.neg
theorem GoodS.ab {a0 b0 : Nat} {s : LS} (h : GoodS a0 b0 s) : s.b ≤ s.a ∧ s.a < 18446744073709551616 := by have := h.leh.ab; omega
theorem GoodS.step {a0 b0 : Nat} {s : LS} (h : GoodS a0 b0 s) (ha : a0 < 18446744073709551616) (hc : lehCond s) :
    GoodS a0 b0 (lehStep s) ∧ 0 < s.b ∧ s.a / s.b < 18446744073709551616 ∧ s.a / s.b * s.un < 18446744073709551616 ∧ s.a / s.b * s.vn < 18446744073709551616 ∧ s.ul + s.a / s.b * s.un < 18446744073709551616 ∧ s.vl + s.a / s.b * s.vn < 18446744073709551616 := by
  obtain ⟨c1, c2⟩ := hc
  obtain ⟨q1, q2⟩ := h.ab
  have hv := h.leh.p
  obtain ⟨k1, k2, k3, k4, k5, k6, k7⟩ := h.leh.step (by omega) (by omega) (by omega)
  have e1 : ((s.a : Int) / s.b) = ((s.a / s.b : Nat) : Int) := (Int.natCast_ediv _ _).symm
  have e2 : ((s.a : Int) % s.b) = ((s.a % s.b : Nat) : Int) := (Int.natCast_emod _ _).symm
  have e3 : ((s.a / s.b : Nat) : Int) * s.un = ((s.a / s.b * s.un : Nat) : Int) := (Int.natCast_mul _ _).symm
  have e4 : ((s.a / s.b : Nat) : Int) * s.vn = ((s.a / s.b * s.vn : Nat) : Int) := (Int.natCast_mul _ _).symm
  rw [e1, e2, e3, e4, ← Int.natCast_add, ← Int.natCast_add] at k1
  rw [e1] at k3
  rw [e1, e3] at k4
  rw [e1, e4] at k5
  rw [e1, e3] at k6
  rw [e1, e4] at k7
  have u1 := h.ul; have u2 := h.vl; have u3 := h.un; have u4 := h.vn
  refine ⟨⟨k1, .inr k2, u1, u2, u3, u4, ?_, ?_, .inr rfl⟩, by omega, by omega, by omega, by omega, by omega, by omega⟩
  · show s.ul + s.a / s.b * s.un < 18446744073709551616; omega
  · show s.vl + s.a / s.b * s.vn < 18446744073709551616; omega
theorem leh_end {a0 b0 : Nat} (ha : a0 < 18446744073709551616) : ∀ (k : Nat) (s : LS), GoodS a0 b0 s → s.b < k → GoodS a0 b0 (lehEnd k s) ∧ ¬ lehCond (lehEnd k s)
  | 0, s, _, h => absurd h (Nat.not_lt_zero _)
  | k + 1, s, hg, h => by
    unfold lehEnd
    split
    · rename_i hc
      obtain ⟨g1, g2, -⟩ := hg.step ha hc
      have : (lehStep s).b < k := by
        show s.a % s.b < k
        have := Nat.mod_lt s.a g2
        omega
      exact leh_end ha k _ g1 this
    · rename_i hc
      exact ⟨hg, hc⟩
/-! ### Lines of package euclid -/
def nthC : Nat → Code → Code
  | 0, c => c1 c
  | k + 1, c => nthC k (c2 c)
noncomputable def b108 : Code := Try.f99.body.getD .skip
noncomputable def b108l : List Code := [nthC 0 b108, nthC 1 b108]
noncomputable def b108d : Code := c1 (c1 (nthC 2 b108))
noncomputable def b108e : Code := c2 (c2 (c2 b108))
theorem b108_eq : Try.f99.body = some (seqs b108l (.seq (.block 0 (.loop b108d)) b108e)) := by kernel_rfl
def lnC (i j : Nat) (b : Bool) : List C := [.ex .u64 (wdE i), .ex .u64 (wdE j), .v (.bool b)]
def liC (u v : Int) (b : Bool) : List C := [.v (.int .u64 u), .v (.int .u64 v), .v (.bool b)]
def bxL (l4 l5 l6 : List C) : List BoxD := [⟨4, l4, 124⟩, ⟨5, l5, 124⟩, ⟨6, l6, 124⟩]
def vsL (v0 v1 : V) : List (Nat × V) := [(0, v0), (1, v1)]
def bxS (nf neg : Bool) : List BoxD := bxL (lnC 2 3 nf) (lnC 4 5 (!neg)) (lnC 6 7 neg)
def vsS : List (Nat × V) := vsL (.s (x1 (wdE 0))) (.s (x1 (wdE 1)))
theorem ln_a (σ : Nat → Int) (o : Nat → V) : fragS (envS σ [] []) 200 b108l 40 [] vsS o (bxL (liC 0 0 false) (liC 1 0 false) (liC 0 1 true)) vsS = true := by kernel_rfl
def t1E (r : Bool) : Test := ⟨.geq, wdE 1, wdE 7, r⟩
def t2E (r : Bool) : Test := ⟨.geq, .bin .sub .u64 (wdE 0) (wdE 1), .bin .add .u64 (wdE 5) (wdE 7), r⟩
def t3E : Test := ⟨.neq, wdE 1, .lit 0, true⟩
def qE : Exp := .bin .quo .u64 (wdE 0) (wdE 1)
def nxC (b : Bool) : List C := [.ex .u64 (.bin .add .u64 (wdE 4) (.bin .mul .u64 qE (wdE 6))), .ex .u64 (.bin .add .u64 (wdE 5) (.bin .mul .u64 qE (wdE 7))), .v (.bool b)]
def rmE : Exp := .bin .rem .u64 (wdE 0) (wdE 1)
theorem ln_d (σ : Nat → Int) (nf neg : Bool) (o : Nat → V) : fragX (envS σ [] [t1E true, t2E true, t3E]) 200 b108d 40 (bxS nf neg) vsS o .normal (bxL (lnC 4 5 (!neg)) (lnC 6 7 neg) (nxC (!neg))) (vsL (.s (x1 (wdE 1))) (.s (x1 rmE))) = true := by
  cases nf <;> cases neg <;> kernel_rfl
theorem ln_o1 (σ : Nat → Int) (nf neg : Bool) (o : Nat → V) : fragX (envS σ [] [t1E false]) 200 b108d 40 (bxS nf neg) vsS o (.exit 0) (bxS nf neg) vsS = true := by
  cases nf <;> cases neg <;> kernel_rfl
theorem ln_o2 (σ : Nat → Int) (nf neg : Bool) (o : Nat → V) : fragX (envS σ [] [t1E true, t2E false]) 200 b108d 40 (bxS nf neg) vsS o (.exit 0) (bxS nf neg) vsS = true := by
  cases nf <;> cases neg <;> kernel_rfl
theorem ln_e (σ : Nat → Int) (nf neg : Bool) (o : Nat → V) : fragE (envS σ [] []) 200 b108e Try.f99 (bxS nf neg) vsS o (.tup [lnN 2 3 nf, lnN 4 5 (!neg)]) = true := by
  cases nf <;> cases neg <;> kernel_rfl
/-! ### The loop -/
def gS (s : LS) : Nat → Nat := lst [s.a, s.b, s.us, s.vs, s.ul, s.vl, s.un, s.vn]
theorem cells_ln {g : Nat → Nat} {i j u v : Nat} {b : Bool} (hi : g i = u) (hj : g j = v) (hu : u < 18446744073709551616) (hv : v < 18446744073709551616) : (lnC i j b).map (valC (sigN g)) = [.int .u64 u, .int .u64 v, .bool b] := by
  show [Value.int .u64 ((Exp.inp .u64 (8 * i + 0)).eval (sigN g)), Value.int .u64 ((Exp.inp .u64 (8 * j + 0)).eval (sigN g)), Value.bool b] = _
  rw [low_inp' hi hu, low_inp' hj hv]
theorem to_state {W : World} {g : Nat → Nat} {l4 l5 l6 : List C} {v0 v1 : V} {s : LS} {a : Act} {w : World} (h : LInv W 40 (sigN g) (bxL l4 l5 l6) (vsL v0 v1) a w)
    (hab : s.b ≤ s.a ∧ s.a < 18446744073709551616) (w1 : s.us < 18446744073709551616) (w2 : s.vs < 18446744073709551616) (w3 : s.ul < 18446744073709551616) (w4 : s.vl < 18446744073709551616) (w5 : s.un < 18446744073709551616) (w6 : s.vn < 18446744073709551616)
    (e4 : l4.map (valC (sigN g)) = [.int .u64 s.us, .int .u64 s.vs, .bool s.nf]) (e5 : l5.map (valC (sigN g)) = [.int .u64 s.ul, .int .u64 s.vl, .bool (!s.neg)]) (e6 : l6.map (valC (sigN g)) = [.int .u64 s.un, .int .u64 s.vn, .bool s.neg])
    (e0 : valV (sigN g) v0 = .int .u64 s.a) (e1 : valV (sigN g) v1 = .int .u64 s.b) : LInv W 40 (sigN (gS s)) (bxS s.nf s.neg) vsS a w := by
  refine h.turn (.cons ⟨rfl, rfl, by rw [e4]; exact cells_ln rfl rfl w1 w2⟩ (.cons ⟨rfl, rfl, by rw [e5]; exact cells_ln rfl rfl w3 w4⟩ (.cons ⟨rfl, rfl, by rw [e6]; exact cells_ln rfl rfl w5 w6⟩ .nil))) (fun p hp => ?_)
  simp only [vsS, vsL, List.mem_cons, List.not_mem_nil, or_false] at hp
  rcases hp with rfl | rfl
  · refine ⟨(0, v0), by simp [vsL], rfl, ?_⟩
    rw [e0]
    show Value.int .u64 ((wdE 0).eval (sigN (gS s))) = _
    rw [show (wdE 0).eval (sigN (gS s)) = (s.a : Int) from low_inp' rfl hab.2]
  · refine ⟨(1, v1), by simp [vsL], rfl, ?_⟩
    rw [e1]
    show Value.int .u64 ((wdE 1).eval (sigN (gS s))) = _
    rw [show (wdE 1).eval (sigN (gS s)) = (s.b : Int) from low_inp' rfl (by omega)]
def redI (W : World) (a0 b0 : Nat) (fin : LS) (p : LS × Nat) (a : Act) (w : World) : Prop :=
  (GoodS a0 b0 p.1 ∧ lehEnd p.2 p.1 = fin ∧ p.1.b < p.2) ∧ LInv W 40 (sigN (gS p.1)) (bxS p.1.nf p.1.neg) vsS a w
theorem red_loop {W : World} {a0 b0 : Nat} (ha : a0 < 18446744073709551616) {fin : LS} {Q : Exit → Act → World → Prop} (hfin : ∀ a w, GoodS a0 b0 fin → LInv W 40 (sigN (gS fin)) (bxS fin.nf fin.neg) vsS a w → Q .normal a w)
    {p : LS × Nat} {a : Act} {w : World} (h : redI W a0 b0 fin p a w) : (Code.block 0 (.loop b108d)).wp Try.prog Q a w := by
  refine wp_block (loop_ind (redI W a0 b0 fin) (fun p => p.2) ?_ (x := p) h)
  clear h
  rintro ⟨s, k⟩ a w ⟨⟨hg, hend, hk⟩, hI⟩
  simp only at hg hend hk hI
  obtain ⟨k, rfl⟩ : ∃ j, k = j + 1 := ⟨k - 1, by omega⟩
  obtain ⟨q1, q2⟩ := hg.ab
  have ea : (wdE 0).eval (sigN (gS s)) = (s.a : Int) := low_inp' rfl q2
  have eb : (wdE 1).eval (sigN (gS s)) = (s.b : Int) := low_inp' rfl (by omega)
  have eul : (wdE 4).eval (sigN (gS s)) = (s.ul : Int) := low_inp' rfl hg.ul
  have evl : (wdE 5).eval (sigN (gS s)) = (s.vl : Int) := low_inp' rfl hg.vl
  have eun : (wdE 6).eval (sigN (gS s)) = (s.un : Int) := low_inp' rfl hg.un
  have evn : (wdE 7).eval (sigN (gS s)) = (s.vn : Int) := low_inp' rfl hg.vn
  have esub : (Exp.bin .sub .u64 (wdE 0) (wdE 1)).eval (sigN (gS s)) = ((s.a - s.b : Nat) : Int) := by
    show IntKind.u64.wrap ((wdE 0).eval (sigN (gS s)) - (wdE 1).eval (sigN (gS s))) = _
    rw [ea, eb, wrap_u64]; omega
  have T1 : TestOk (sigN (gS s)) (t1E (decide (s.vn ≤ s.b))) := fun kk => by
    show some (Value.bool (decide ((wdE 1).eval (sigN (gS s)) ≥ (wdE 7).eval (sigN (gS s))))) = some (.bool (decide (s.vn ≤ s.b)))
    rw [eb, evn]
    congr 2
    rw [decide_eq_decide]; omega
  have T2 : s.vn ≤ s.b → TestOk (sigN (gS s)) (t2E (decide (s.vl + s.vn ≤ s.a - s.b))) := fun hc kk => by
    have hp := hg.leh.p
    have h1 := hg.leh.h1
    have hsum : s.vl + s.vn < 18446744073709551616 := by
      have m1 : (s.vn : Int) * 1 ≤ s.vn * s.a := Int.mul_le_mul_of_nonneg_left (by omega) (by omega)
      have m2 : (s.vl : Int) * 1 ≤ s.vl * s.b := Int.mul_le_mul_of_nonneg_left (by omega) (by omega)
      omega
    have eadd : (Exp.bin .add .u64 (wdE 5) (wdE 7)).eval (sigN (gS s)) = ((s.vl + s.vn : Nat) : Int) := by
      show IntKind.u64.wrap ((wdE 5).eval (sigN (gS s)) + (wdE 7).eval (sigN (gS s))) = _
      rw [evl, evn, wrap_u64]; omega
    show some (Value.bool (decide ((Exp.bin .sub .u64 (wdE 0) (wdE 1)).eval (sigN (gS s)) ≥ (Exp.bin .add .u64 (wdE 5) (wdE 7)).eval (sigN (gS s))))) = some (.bool (decide (s.vl + s.vn ≤ s.a - s.b)))
    rw [esub, eadd]
    congr 2
    rw [decide_eq_decide]; omega
  by_cases hc1 : s.vn ≤ s.b
  · by_cases hc2 : s.vl + s.vn ≤ s.a - s.b
    · rw [decide_eq_true hc1] at T1
      have T2 := T2 hc1
      rw [decide_eq_true hc2] at T2
      obtain ⟨hg', hb, hq, m1, m2, a1, a2⟩ := hg.step ha ⟨hc1, hc2⟩
      have T3 : TestOk (sigN (gS s)) t3E := fun kk => by
        show some (Value.bool ((wdE 1).eval (sigN (gS s)) != 0)) = some (.bool true)
        rw [eb]
        congr 2
        rw [bne_iff_ne]; omega
      have hend' : lehEnd k (lehStep s) = fin := by
        rw [← hend]
        show _ = if lehCond s then _ else _
        rw [if_pos ⟨hc1, hc2⟩]
      have hlt := Nat.mod_lt s.a hb
      refine frag (E := envS (sigN (gS s)) [] _) (envS_ok no_row (fun q hq => ?_) W) (ln_d _ s.nf s.neg) hI fun a w' hI => ?_
      · simp only [List.mem_cons, List.not_mem_nil, or_false] at hq
        rcases hq with rfl | rfl | rfl
        · exact T1
        · exact T2
        · exact T3
      · refine ⟨(lehStep s, k), ⟨⟨hg', hend', by show s.a % s.b < k; omega⟩, ?_⟩, Nat.lt_succ_self _⟩
        have eq : qE.eval (sigN (gS s)) = ((s.a / s.b : Nat) : Int) := by
          show numOf (intBin .quo .u64 ((wdE 0).eval (sigN (gS s))) ((wdE 1).eval (sigN (gS s)))) = _
          rw [ea, eb]
          unfold intBin
          rw [if_neg (by omega)]
          show IntKind.u64.wrap (Int.tdiv (s.a : Int) (s.b : Int)) = _
          have hql := Nat.div_le_self s.a s.b
          have hab := hg.ab
          rw [Int.tdiv_eq_ediv_of_nonneg (by omega), ← Int.natCast_ediv, wrap_u64]
          generalize s.a / s.b = q at hql ⊢
          omega
        have er : rmE.eval (sigN (gS s)) = ((s.a % s.b : Nat) : Int) := by
          show numOf (intBin .rem .u64 ((wdE 0).eval (sigN (gS s))) ((wdE 1).eval (sigN (gS s)))) = _
          rw [ea, eb]
          unfold intBin
          simp only []
          rw [if_neg (by omega)]
          show Int.tmod (s.a : Int) (s.b : Int) = _
          rw [Int.tmod_eq_emod_of_nonneg (by omega)]; rfl
        have ex : ∀ (e1 e2 : Exp) (u v : Nat), e1.eval (sigN (gS s)) = (u : Int) → e2.eval (sigN (gS s)) = (v : Int) → s.a / s.b * v < 18446744073709551616 → u + s.a / s.b * v < 18446744073709551616 → (Exp.bin .add .u64 e1 (.bin .mul .u64 qE e2)).eval (sigN (gS s)) = ((u + s.a / s.b * v : Nat) : Int) := by
          intro e1 e2 u v h1 h2 h3 h4
          show IntKind.u64.wrap (e1.eval (sigN (gS s)) + IntKind.u64.wrap (qE.eval (sigN (gS s)) * e2.eval (sigN (gS s)))) = _
          rw [h1, h2, eq, ← Int.natCast_mul, wrap_u64, wrap_u64]; omega
        refine to_state (s := lehStep s) hI ⟨Nat.le_of_lt hlt, by show s.b < 18446744073709551616; omega⟩ hg.ul hg.vl hg.un hg.vn a1 a2 (cells_ln rfl rfl hg.ul hg.vl) ?_ ?_ ?_ ?_
        · show _ = [Value.int .u64 s.un, Value.int .u64 s.vn, Value.bool (!!s.neg)]
          rw [Bool.not_not]; exact cells_ln rfl rfl hg.un hg.vn
        · show [Value.int .u64 _, Value.int .u64 _, Value.bool (!s.neg)] = _
          rw [ex (wdE 4) (wdE 6) s.ul s.un eul eun m1 a1, ex (wdE 5) (wdE 7) s.vl s.vn evl evn m2 a2]; rfl
        · show Value.int .u64 ((wdE 1).eval (sigN (gS s))) = _
          rw [eb]; rfl
        · show Value.int .u64 (rmE.eval (sigN (gS s))) = _
          rw [er]; rfl
    · have hs : s = fin := by
        rw [← hend]
        show _ = if lehCond s then _ else _
        rw [if_neg (fun h => hc2 h.2)]
      subst hs
      rw [decide_eq_true hc1] at T1
      have T2 := T2 hc1
      rw [decide_eq_false hc2] at T2
      refine frag (E := envS (sigN (gS s)) [] _) (envS_ok no_row (fun q hq => ?_) W) (ln_o2 _ s.nf s.neg) hI fun a w' hI => ?_
      · simp only [List.mem_cons, List.not_mem_nil, or_false] at hq
        rcases hq with rfl | rfl
        · exact T1
        · exact T2
      · simp only [exOf, Exit.then, Exit.inBlock, if_true]
        exact hfin a w' hg hI
  · have hs : s = fin := by
      rw [← hend]
      show _ = if lehCond s then _ else _
      rw [if_neg (fun h => hc1 h.1)]
    subst hs
    rw [decide_eq_false hc1] at T1
    refine frag (E := envS (sigN (gS s)) [] _) (envS_ok no_row (one_test T1) W) (ln_o1 _ s.nf s.neg) hI fun a w' hI => ?_
    simp only [exOf, Exit.then, Exit.inBlock, if_true]
    exact hfin a w' hg hI
/-- Lines of package euclid. -/
theorem f_Lines {a0 b0 : Nat} (ha0 : a0 < 18446744073709551616) (hb0 : b0 ≤ a0) : ∃ fin : LS, GoodS a0 b0 fin ∧ Gives Try.prog 99 [.int .u64 a0, .int .u64 b0] (.tuple #[lnV fin.us fin.vs fin.nf, lnV fin.ul fin.vl (!fin.neg)]) := by
  have g0 : GoodS a0 b0 ⟨a0, b0, 0, 0, 1, 0, 0, 1, true, false⟩ := ⟨LehK.init ⟨Int.natCast_nonneg _, Int.ofNat_le.2 hb0, Int.ofNat_lt.2 ha0⟩, .inl rfl, show (0 : Nat) < 18446744073709551616 by decide, show (0 : Nat) < 18446744073709551616 by decide, show (1 : Nat) < 18446744073709551616 by decide, show (0 : Nat) < 18446744073709551616 by decide, show (0 : Nat) < 18446744073709551616 by decide, show (1 : Nat) < 18446744073709551616 by decide, .inl rfl⟩
  obtain ⟨gf, -⟩ := leh_end ha0 (b0 + 1) _ g0 (Nat.lt_succ_self _)
  obtain ⟨fin, hfin⟩ : ∃ fin, lehEnd (b0 + 1) ⟨a0, b0, 0, 0, 1, 0, 0, 1, true, false⟩ = fin := ⟨_, rfl⟩
  rw [hfin] at gf
  refine ⟨fin, gf, ?_⟩
  refine gives_of (enters_of Try.func99 (by kernel_rfl) rfl) fun w => ?_
  have key : ∀ (a : Act) (w' : World), LInv w 40 (sigN (lst [a0, b0])) [] vsS a w' → (seqs b108l (.seq (.block 0 (.loop b108d)) b108e)).wp Try.prog (bodyPost Try.prog Try.f99 (@Gets (fun _ r' => r' = .tuple #[lnV fin.us fin.vs fin.nf, lnV fin.ul fin.vl (!fin.neg)]) w)) a w' := by
    intro a w' hI
    refine frags (E := envS (sigN (lst [a0, b0])) [] []) (envS_ok no_row no_test w) (ln_a _) hI fun a w' hI => ?_
    have hI : LInv w 40 (sigN (gS ⟨a0, b0, 0, 0, 1, 0, 0, 1, true, false⟩)) (bxS false true) vsS a w' := by
      refine to_state (s := ⟨a0, b0, 0, 0, 1, 0, 0, 1, true, false⟩) hI ⟨hb0, ha0⟩ (show (0 : Nat) < 18446744073709551616 by decide) (show (0 : Nat) < 18446744073709551616 by decide) (show (1 : Nat) < 18446744073709551616 by decide) (show (0 : Nat) < 18446744073709551616 by decide) (show (0 : Nat) < 18446744073709551616 by decide) (show (1 : Nat) < 18446744073709551616 by decide) rfl rfl rfl ?_ ?_
      · show Value.int .u64 ((wdE 0).eval (sigN (lst [a0, b0]))) = _
        rw [show (wdE 0).eval (sigN (lst [a0, b0])) = (a0 : Int) from low_inp' rfl ha0]
      · show Value.int .u64 ((wdE 1).eval (sigN (lst [a0, b0]))) = _
        rw [show (wdE 1).eval (sigN (lst [a0, b0])) = (b0 : Int) from low_inp' rfl (by omega)]
    refine wp_seq (red_loop ha0 (fun a w' _ hI => ?_) (p := (⟨a0, b0, 0, 0, 1, 0, 0, 1, true, false⟩, b0 + 1)) ⟨⟨g0, hfin, Nat.lt_succ_self _⟩, hI⟩)
    refine frag_end (E := envS (sigN (gS fin)) [] []) (envS_ok no_row no_test w) (fn := Try.f99) (ln_e _ fin.nf fin.neg) hI (R := @Gets (fun _ r' => r' = .tuple #[lnV fin.us fin.vs fin.nf, lnV fin.ul fin.vl (!fin.neg)]) w) (fun w' hb => ⟨_, rfl, ?_, hb⟩) (fun a w h => h)
    show valV (sigN (gS fin)) (.tup [lnN 2 3 fin.nf, lnN 4 5 (!fin.neg)]) = _
    rw [valV_tup2, val_ln (g := gS fin) (i := 2) (j := 3) rfl rfl gf.us gf.vs, val_ln (g := gS fin) (i := 4) (j := 5) rfl rfl gf.ul gf.vl]
    rfl
  have e0 := low_inp' (g := lst [a0, b0]) (k := 0) rfl ha0
  have e1 := low_inp' (g := lst [a0, b0]) (k := 1) rfl (show b0 < 18446744073709551616 by omega)
  have := enter_inv (P := Try.prog) (f := 99) (fn := Try.f99) Try.func99 b108_eq (l := [x1 (wdE 0), x1 (wdE 1)]) (by kernel_rfl) (sigN (lst [a0, b0])) (w := w) (R := @Gets (fun _ r' => r' = .tuple #[lnV fin.us fin.vs fin.nf, lnV fin.ul fin.vl (!fin.neg)]) w) (fun a hI => key a w hI)
  rwa [show [x1 (wdE 0), x1 (wdE 1)].map (val1 (sigN (lst [a0, b0]))) = [.int .u64 (a0 : Int), .int .u64 (b0 : Int)] by
    show [Value.int .u64 ((wdE 0).eval (sigN (lst [a0, b0]))), Value.int .u64 ((wdE 1).eval (sigN (lst [a0, b0])))] = _
    rw [show (wdE 0).eval (sigN (lst [a0, b0])) = (a0 : Int) from e0, show (wdE 1).eval (sigN (lst [a0, b0])) = (b0 : Int) from e1]] at this
/-! ### reduce -/
def shE : Exp := .bin .sub .i64 (wdE 10) (.lit 64)
def rowsQ0 (b c : Bool) : List Row := [⟨76, [inN 0], .s (.one (.ex .i64 (wdE 10)))⟩, ⟨79, [inN 0, .one (.ex .i64 shE)], .s (inN 11)⟩, ⟨79, [inN 1, .one (.ex .i64 shE)], .s (inN 12)⟩, ⟨99, [x1 (wdE 11), x1 (wdE 12)], .tup [lnN 2 3 b, lnN 4 5 c]⟩]
def t5E (r : Bool) : Test := ⟨.eql, wdE 3, .lit 0, r⟩
def redRow (v : V) : Row := ⟨86, [inN 0, inN 1], v⟩
theorem red_e1 (σ : Nat → Int) (b c : Bool) : runs σ (rowsQ0 b c ++ [⟨77, [inN 0, inN 1], .tup [inN 6, inN 7]⟩]) [t5E true] (redRow (.tup [inN 1, inN 7])) 300 = true := by
  cases b <;> cases c <;> kernel_rfl
theorem red_e2 (σ : Nat → Int) (b c : Bool) : runs σ (rowsQ0 b c ++ [⟨100, [lnN 2 3 b, inN 0, inN 1], .s (inN 6)⟩, ⟨100, [lnN 4 5 c, inN 0, inN 1], .s (inN 7)⟩]) [t5E false] (redRow (.tup [inN 6, inN 7])) 300 = true := by
  cases b <;> cases c <;> kernel_rfl
theorem gcd_red {m n m' n' : Nat} (h : ∀ d : Int, d ∣ (m' : Int) ∧ d ∣ (n' : Int) ↔ d ∣ (m : Int) ∧ d ∣ (n : Int)) : Nat.gcd m' n' = Nat.gcd m n := by
  apply Nat.dvd_antisymm
  · obtain ⟨a, b⟩ := (h (Nat.gcd m' n' : Nat)).1 ⟨Int.natCast_dvd_natCast.2 (Nat.gcd_dvd_left _ _), Int.natCast_dvd_natCast.2 (Nat.gcd_dvd_right _ _)⟩
    exact Nat.dvd_gcd (Int.natCast_dvd_natCast.1 a) (Int.natCast_dvd_natCast.1 b)
  · obtain ⟨a, b⟩ := (h (Nat.gcd m n : Nat)).2 ⟨Int.natCast_dvd_natCast.2 (Nat.gcd_dvd_left _ _), Int.natCast_dvd_natCast.2 (Nat.gcd_dvd_right _ _)⟩
    exact Nat.dvd_gcd (Int.natCast_dvd_natCast.1 a) (Int.natCast_dvd_natCast.1 b)
theorem f_reduce {m n : Nat} (hm : m < 13407807929942597099574024998205846127479365820592393377723561443721764030073546976801874298166903427690031858186486050853753882811946569946433649006084096) (hnm : n ≤ m) (hn : 18446744073709551616 ≤ n) : ∃ m' n' : Nat, n' < m' ∧ m' ≤ n ∧ Nat.gcd m' n' = Nat.gcd m n ∧ Gives Try.prog 86 [magV m, magV n] (.tuple #[magV m', magV n']) := by
  obtain ⟨k, hk, ⟨hk1, hk2, hk3⟩, hbits⟩ := f_bits m hm (by omega)
  have hk65 : 65 ≤ k := by
    rcases Nat.lt_or_ge k 65 with h | h
    · exfalso
      have h1 : 2 ^ k ≤ 2 ^ 64 := Nat.pow_le_pow_right (by decide) (by omega)
      rw [show (2 : Nat) ^ 64 = 18446744073709551616 by decide] at h1
      omega
    · exact h
  obtain ⟨sh, rfl⟩ : ∃ sh, k = sh + 64 := ⟨k - 64, by omega⟩
  have hS : 0 < 2 ^ sh := Nat.two_pow_pos sh
  have ha0 : m / 2 ^ sh < 18446744073709551616 := by
    apply Nat.div_lt_of_lt_mul
    rw [← show (2 : Nat) ^ 64 = 18446744073709551616 by decide, ← Nat.pow_add]; exact hk3
  have hb0 : n / 2 ^ sh ≤ m / 2 ^ sh := Nat.div_le_div_right hnm
  have hdm := Nat.div_add_mod m (2 ^ sh)
  have hdn := Nat.div_add_mod n (2 ^ sh)
  have hrm := Nat.mod_lt m hS
  have hrn := Nat.mod_lt n hS
  obtain ⟨fin, gf, hlines⟩ := f_Lines ha0 hb0
  have hnP : n < 13407807929942597099574024998205846127479365820592393377723561443721764030073546976801874298166903427690031858186486050853753882811946569946433649006084096 := by omega
  -- what every row gives
  have rows : ∀ (g : Nat → Nat), g 0 = m → g 1 = n → g 2 = fin.us → g 3 = fin.vs → g 4 = fin.ul → g 5 = fin.vl → g 10 = sh + 64 → g 11 = m / 2 ^ sh → g 12 = n / 2 ^ sh → ∀ r ∈ rowsQ0 fin.nf (!fin.neg), RowGives Try.prog (sigN g) r := by
    intro g g0 g1 g2 g3 g4 g5 g10 g11 g12
    have e10 : (wdE 10).eval (sigN g) = ((sh + 64 : Nat) : Int) := low_inp' g10 (by omega)
    have esh : shE.eval (sigN g) = ((sh : Nat) : Int) := by
      show IntKind.i64.wrap ((wdE 10).eval (sigN g) - 64) = _
      rw [e10, wrap_i64 _ (by omega)]; omega
    have k1 : RowGives Try.prog (sigN g) ⟨76, [inN 0], .s (.one (.ex .i64 (wdE 10)))⟩ := by
      refine ⟨rfl, ?_⟩
      simp only [List.map_cons, List.map_nil, val_inN, valV_s, g0]
      show Gives Try.prog 76 [magV m] (.int .i64 ((wdE 10).eval (sigN g)))
      rw [e10]; exact hbits
    have k2 : RowGives Try.prog (sigN g) ⟨79, [inN 0, .one (.ex .i64 shE)], .s (inN 11)⟩ := by
      refine ⟨rfl, ?_⟩
      simp only [List.map_cons, List.map_nil, val_inN, valV_s, g0, g11]
      show Gives Try.prog 79 [magV m, .int .i64 (shE.eval (sigN g))] _
      rw [esh]; exact f_right m sh (by omega) hm
    have k3 : RowGives Try.prog (sigN g) ⟨79, [inN 1, .one (.ex .i64 shE)], .s (inN 12)⟩ := by
      refine ⟨rfl, ?_⟩
      simp only [List.map_cons, List.map_nil, val_inN, valV_s, g1, g12]
      show Gives Try.prog 79 [magV n, .int .i64 (shE.eval (sigN g))] _
      rw [esh]; exact f_right n sh (by omega) hnP
    have k4 : RowGives Try.prog (sigN g) ⟨99, [x1 (wdE 11), x1 (wdE 12)], .tup [lnN 2 3 fin.nf, lnN 4 5 (!fin.neg)]⟩ := by
      refine ⟨by cases fin.nf <;> cases fin.neg <;> rfl, ?_⟩
      have e11 : (wdE 11).eval (sigN g) = ((m / 2 ^ sh : Nat) : Int) := low_inp' g11 ha0
      have e12 : (wdE 12).eval (sigN g) = ((n / 2 ^ sh : Nat) : Int) := low_inp' g12 (by omega)
      simp only [List.map_cons, List.map_nil, val_x1, valV_tup2, e11, e12, val_ln g2 g3 gf.us gf.vs, val_ln g4 g5 gf.ul gf.vl]
      exact hlines
    exact more_row k1 (more_row k2 (more_row k3 (one_row k4)))
  have app : ∀ {σ : Nat → Int} {l r : List Row}, (∀ q ∈ l, RowGives Try.prog σ q) → (∀ q ∈ r, RowGives Try.prog σ q) → ∀ q ∈ l ++ r, RowGives Try.prog σ q := fun h1 h2 q hq => (List.mem_append.1 hq).elim (h1 q) (h2 q)
  have evs : ∀ g : Nat → Nat, g 3 = fin.vs → (wdE 3).eval (sigN g) = (fin.vs : Int) := fun g h => low_inp' h gf.vs
  by_cases hvs : fin.vs = 0
  · refine ⟨n, m % n, Nat.mod_lt _ (by omega), Nat.le_refl _, ?_, ?_⟩
    · rw [Nat.gcd_comm n, ← Nat.gcd_rec, Nat.gcd_comm]
    · have k1 : RowGives Try.prog (sigN (lst [m, n, fin.us, fin.vs, fin.ul, fin.vl, m / n, m % n, 0, 0, sh + 64, m / 2 ^ sh, n / 2 ^ sh])) ⟨77, [inN 0, inN 1], .tup [inN 6, inN 7]⟩ := by
        refine ⟨rfl, ?_⟩
        simp only [List.map_cons, List.map_nil, val_inN, valV_tup2]
        exact f_divideG m n hm ⟨by omega, hnP⟩
      have T : TestOk (sigN (lst [m, n, fin.us, fin.vs, fin.ul, fin.vl, m / n, m % n, 0, 0, sh + 64, m / 2 ^ sh, n / 2 ^ sh])) (t5E true) := fun kk => by
        show some (Value.bool ((wdE 3).eval (sigN (lst [m, n, fin.us, fin.vs, fin.ul, fin.vl, m / n, m % n, 0, 0, sh + 64, m / 2 ^ sh, n / 2 ^ sh])) == 0)) = some (.bool true)
        rw [evs _ rfl, hvs]; rfl
      have := run_gives _ _ [t5E true] (app (rows _ rfl rfl rfl rfl rfl rfl rfl rfl rfl) (one_row k1)) (one_test T) _ 300 (fun σ => red_e1 σ fin.nf (!fin.neg))
      simp only [redRow, List.map_cons, List.map_nil, val_inN, valV_tup2] at this
      exact this
  · have hnf : fin.nf = fin.neg := by rcases gf.nf with h | h; exact absurd h hvs; exact h
    have hsure : SureK (m / 2 ^ sh : Nat) (n / 2 ^ sh : Nat) fin.a fin.us fin.vs fin.ul fin.vl fin.neg := by
      rcases gf.sure with h | h
      · exact absurd h hvs
      · exact h
    obtain ⟨M, N, hM, hN, hR⟩ := hsure.red (m := m) (n := n) (S := (2 ^ sh : Nat)) (A := (m % 2 ^ sh : Nat)) (B := (n % 2 ^ sh : Nat)) (by omega) (by rw [← Int.natCast_mul, ← Int.natCast_add, Nat.mul_comm]; omega) (by rw [← Int.natCast_mul, ← Int.natCast_add, Nat.mul_comm]; omega) ⟨by omega, by omega⟩ ⟨by omega, by omega⟩
    obtain ⟨l1, l2, l3⟩ := hR.lt
    obtain ⟨m', rfl⟩ := Int.eq_ofNat_of_zero_le (show 0 ≤ M by omega)
    obtain ⟨n', rfl⟩ := Int.eq_ofNat_of_zero_le l1
    refine ⟨m', n', by omega, by omega, gcd_red hR.dvd, ?_⟩
    have p1 : ((fin.vs : Int)) * n = ((n * fin.vs : Nat) : Int) := by rw [Int.natCast_mul, Int.mul_comm]
    have p2 : ((fin.us : Int)) * m = ((m * fin.us : Nat) : Int) := by rw [Int.natCast_mul, Int.mul_comm]
    have p3 : ((fin.vl : Int)) * n = ((n * fin.vl : Nat) : Int) := by rw [Int.natCast_mul, Int.mul_comm]
    have p4 : ((fin.ul : Int)) * m = ((m * fin.ul : Nat) : Int) := by rw [Int.natCast_mul, Int.mul_comm]
    rw [p1, p2] at hM
    rw [p3, p4] at hN
    have k1 : RowGives Try.prog (sigN (lst [m, n, fin.us, fin.vs, fin.ul, fin.vl, m', n', 0, 0, sh + 64, m / 2 ^ sh, n / 2 ^ sh])) ⟨100, [lnN 2 3 fin.nf, inN 0, inN 1], .s (inN 6)⟩ := by
      refine ⟨by cases fin.nf <;> rfl, ?_⟩
      simp only [List.map_cons, List.map_nil, val_inN, valV_s]
      rw [val_ln (g := lst [m, n, fin.us, fin.vs, fin.ul, fin.vl, m', n', 0, 0, sh + 64, m / 2 ^ sh, n / 2 ^ sh]) (i := 2) (j := 3) rfl rfl gf.us gf.vs, hnf]
      refine f_remainder fin.neg hm hnP gf.us gf.vs ?_
      cases hneg : fin.neg with
      | true => rw [hneg] at hM; simp at hM ⊢; show n * fin.vs = m * fin.us + m'; omega
      | false => rw [hneg] at hM; simp at hM ⊢; show m * fin.us = n * fin.vs + m'; omega
    have k2 : RowGives Try.prog (sigN (lst [m, n, fin.us, fin.vs, fin.ul, fin.vl, m', n', 0, 0, sh + 64, m / 2 ^ sh, n / 2 ^ sh])) ⟨100, [lnN 4 5 (!fin.neg), inN 0, inN 1], .s (inN 7)⟩ := by
      refine ⟨by cases fin.neg <;> rfl, ?_⟩
      simp only [List.map_cons, List.map_nil, val_inN, valV_s]
      rw [val_ln (g := lst [m, n, fin.us, fin.vs, fin.ul, fin.vl, m', n', 0, 0, sh + 64, m / 2 ^ sh, n / 2 ^ sh]) (i := 4) (j := 5) rfl rfl gf.ul gf.vl]
      refine f_remainder (!fin.neg) hm hnP gf.ul gf.vl ?_
      cases hneg : fin.neg with
      | true => rw [hneg] at hN; simp at hN ⊢; show m * fin.ul = n * fin.vl + n'; omega
      | false => rw [hneg] at hN; simp at hN ⊢; show n * fin.vl = m * fin.ul + n'; omega
    have T : TestOk (sigN (lst [m, n, fin.us, fin.vs, fin.ul, fin.vl, m', n', 0, 0, sh + 64, m / 2 ^ sh, n / 2 ^ sh])) (t5E false) := fun kk => by
      show some (Value.bool ((wdE 3).eval (sigN (lst [m, n, fin.us, fin.vs, fin.ul, fin.vl, m', n', 0, 0, sh + 64, m / 2 ^ sh, n / 2 ^ sh])) == 0)) = some (.bool false)
      rw [evs _ rfl]
      congr 2
      rw [beq_eq_false_iff_ne]; omega
    have := run_gives _ _ [t5E false] (app (rows _ rfl rfl rfl rfl rfl rfl rfl rfl rfl) (more_row k1 (one_row k2))) (one_test T) _ 300 (fun σ => red_e2 σ fin.nf (!fin.neg))
    simp only [redRow, List.map_cons, List.map_nil, val_inN, valV_tup2] at this
    exact this
end Go.Proofs.Ytedhjlkidcojhaa
