/-
  The power of a signed magnitude; wide.Root and wide.Pow for every value.
-/
import Derived.Test.YtedhjlkidcojhaaMQB
set_option linter.all false
namespace Go.Proofs.Ytedhjlkidcojhaa
open Go Go.Rx Go.RowKit Go.Big
/-! ### The way of the powers -/
structure PwS where
  q : Nat
  c : Bool
  f : Bool
def pwStep (p : Nat) (b : Bool) (s : PwS) (bit : Bool) : PwS :=
  if s.f = true then (if s.q * s.q < 13407807929942597099574024998205846127479365820592393377723561443721764030073546976801874298166903427690031858186486050853753882811946569946433649006084096 then (if bit = true then ⟨s.q * s.q % 13407807929942597099574024998205846127479365820592393377723561443721764030073546976801874298166903427690031858186486050853753882811946569946433649006084096 * p % 13407807929942597099574024998205846127479365820592393377723561443721764030073546976801874298166903427690031858186486050853753882811946569946433649006084096, b, decide (s.q * s.q % 13407807929942597099574024998205846127479365820592393377723561443721764030073546976801874298166903427690031858186486050853753882811946569946433649006084096 * p < 13407807929942597099574024998205846127479365820592393377723561443721764030073546976801874298166903427690031858186486050853753882811946569946433649006084096)⟩ else ⟨s.q * s.q % 13407807929942597099574024998205846127479365820592393377723561443721764030073546976801874298166903427690031858186486050853753882811946569946433649006084096, false, true⟩) else ⟨s.q * s.q % 13407807929942597099574024998205846127479365820592393377723561443721764030073546976801874298166903427690031858186486050853753882811946569946433649006084096, false, false⟩) else s
/-- What stands behind k of L bits of n, from the highest one on. -/
def pwAt (p : Nat) (b : Bool) (n L : Nat) : Nat → PwS
  | 0 => ⟨1, false, true⟩
  | k + 1 => pwStep p b (pwAt p b n L k) (decide (n / 2 ^ (L - 1 - k) % 2 = 1))
theorem pwAt_stuck {p : Nat} {b : Bool} {n L k : Nat} (h : (pwAt p b n L k).f = false) : ∀ i, pwAt p b n L (k + i) = pwAt p b n L k
  | 0 => rfl
  | i + 1 => by
    have ih := pwAt_stuck h i
    show pwStep p b (pwAt p b n L (k + i)) _ = _
    rw [ih]; unfold pwStep; rw [if_neg (by rw [h]; decide)]
theorem pwAt_lt {p : Nat} {b : Bool} {n L : Nat} : ∀ k, (pwAt p b n L k).q < 13407807929942597099574024998205846127479365820592393377723561443721764030073546976801874298166903427690031858186486050853753882811946569946433649006084096
  | 0 => by show 1 < 13407807929942597099574024998205846127479365820592393377723561443721764030073546976801874298166903427690031858186486050853753882811946569946433649006084096; omega
  | k + 1 => by
    have ih := pwAt_lt (p := p) (b := b) (n := n) (L := L) k
    show (pwStep p b (pwAt p b n L k) _).q < 13407807929942597099574024998205846127479365820592393377723561443721764030073546976801874298166903427690031858186486050853753882811946569946433649006084096
    unfold pwStep
    split
    · split
      · split
        · exact Nat.mod_lt _ (by decide)
        · exact Nat.mod_lt _ (by decide)
      · exact Nat.mod_lt _ (by decide)
    · exact ih
theorem half_step {n L k : Nat} (h : k < L) : n / 2 ^ (L - (k + 1)) = 2 * (n / 2 ^ (L - k)) + n / 2 ^ (L - 1 - k) % 2 := by
  rw [show L - (k + 1) = L - 1 - k by omega, show L - k = (L - 1 - k) + 1 by omega, Nat.pow_succ, ← Nat.div_div_eq_div_mul]
  omega
theorem pw_spec {p : Nat} {b : Bool} {n L : Nat} (hL : n < 2 ^ L) : ∀ k, k ≤ L → ((pwAt p b n L k).f = true → (pwAt p b n L k).q = p ^ (n / 2 ^ (L - k)) ∧ (pwAt p b n L k).c = (b && decide (n / 2 ^ (L - k) % 2 = 1))) ∧ ((pwAt p b n L k).f = false → 13407807929942597099574024998205846127479365820592393377723561443721764030073546976801874298166903427690031858186486050853753882811946569946433649006084096 ≤ p ^ n)
  | 0, _ => by
    refine ⟨fun _ => ?_, fun h => by cases h⟩
    rw [Nat.sub_zero, Nat.div_eq_of_lt hL]
    exact ⟨rfl, by cases b <;> rfl⟩
  | k + 1, hk => by
    obtain ⟨ih1, ih2⟩ := pw_spec (p := p) (b := b) hL k (by omega)
    have hs := half_step (n := n) (L := L) (k := k) (by omega)
    have hq := pwAt_lt (p := p) (b := b) (n := n) (L := L) k
    have hle : n / 2 ^ (L - (k + 1)) ≤ n := Nat.div_le_self _ _
    have e : pwAt p b n L (k + 1) = pwStep p b (pwAt p b n L k) (decide (n / 2 ^ (L - 1 - k) % 2 = 1)) := rfl
    rw [e, hs]
    rw [hs] at hle
    generalize pwAt p b n L k = s at *
    generalize n / 2 ^ (L - k) = u at *
    have hbit : n / 2 ^ (L - 1 - k) % 2 = 0 ∨ n / 2 ^ (L - 1 - k) % 2 = 1 := by omega
    generalize n / 2 ^ (L - 1 - k) % 2 = t at *
    unfold pwStep
    cases hf : s.f with
    | false =>
      rw [if_neg (by decide)]
      refine ⟨fun h => ?_, fun _ => ih2 hf⟩
      rw [hf] at h; cases h
    | true =>
      obtain ⟨h1, h2⟩ := ih1 hf
      rw [if_pos rfl]
      have hsq : s.q * s.q = p ^ (2 * u) := by rw [h1, ← Nat.pow_add]; congr 1; omega
      have pos : ∀ v, 13407807929942597099574024998205846127479365820592393377723561443721764030073546976801874298166903427690031858186486050853753882811946569946433649006084096 ≤ p ^ v → 0 < p := fun v hv => by
        rcases Nat.eq_zero_or_pos p with h | h
        · subst h
          rcases Nat.eq_zero_or_pos v with hv0 | hv0
          · subst hv0; rw [Nat.pow_zero] at hv; omega
          · rw [Nat.zero_pow hv0] at hv; omega
        · exact h
      by_cases hb : s.q * s.q < 13407807929942597099574024998205846127479365820592393377723561443721764030073546976801874298166903427690031858186486050853753882811946569946433649006084096
      · rw [if_pos hb]
        rcases hbit with ht | ht
        · subst ht
          rw [if_neg (by decide)]
          refine ⟨fun _ => ⟨?_, ?_⟩, fun h => by cases h⟩
          · simp only [Nat.mod_eq_of_lt hb]; rw [hsq]; rfl
          · rw [show (2 * u + 0) % 2 = 0 by omega]; cases b <;> rfl
        · subst ht
          rw [if_pos (by decide)]
          have e2 : s.q * s.q % 13407807929942597099574024998205846127479365820592393377723561443721764030073546976801874298166903427690031858186486050853753882811946569946433649006084096 * p = p ^ (2 * u + 1) := by rw [Nat.mod_eq_of_lt hb, hsq, Nat.pow_succ]
          simp only [e2]
          refine ⟨fun h => ⟨Nat.mod_eq_of_lt (of_decide_eq_true h), ?_⟩, fun h => ?_⟩
          · rw [show (2 * u + 1) % 2 = 1 by omega]; cases b <;> rfl
          · have h3 : 13407807929942597099574024998205846127479365820592393377723561443721764030073546976801874298166903427690031858186486050853753882811946569946433649006084096 ≤ p ^ (2 * u + 1) := Nat.le_of_not_lt (of_decide_eq_false h)
            exact Nat.le_trans h3 (Nat.pow_le_pow_right (pos _ h3) hle)
      · rw [if_neg hb]
        refine ⟨(fun h => by cases h), fun _ => ?_⟩
        have h3 : 13407807929942597099574024998205846127479365820592393377723561443721764030073546976801874298166903427690031858186486050853753882811946569946433649006084096 ≤ p ^ (2 * u) := by rw [← hsq]; omega
        exact Nat.le_trans h3 (Nat.pow_le_pow_right (pos _ h3) (by omega))
theorem sg_pow (p : Nat) (b : Bool) : ∀ n : Nat, sg (p ^ n) (b && decide (n % 2 = 1)) = sg p b ^ n
  | 0 => by cases b <;> simp [sg]
  | n + 1 => by
    have ih := sg_pow p b n
    rw [Int.pow_succ, ← ih]
    cases b with
    | false => simp only [Bool.false_and, sg]; rw [Nat.pow_succ, Int.natCast_mul]; rfl
    | true =>
      rcases (show n % 2 = 0 ∨ n % 2 = 1 by omega) with h | h
      · rw [h, show (n + 1) % 2 = 1 by omega]
        simp [sg, Nat.pow_succ, Int.mul_neg]
      · rw [h, show (n + 1) % 2 = 0 by omega]
        simp [sg, Nat.pow_succ, Int.mul_neg, Int.neg_mul]
/-! ### The code of power -/
noncomputable def b51 : Code := Try.f40.body.getD .skip
noncomputable def b51a : Code := c1 b51
noncomputable def b51b : Code := c1 (c2 b51)
noncomputable def b51c : Code := c1 (c1 (c2 (c2 b51)))
noncomputable def b51d : Code := c1 (c1 (c2 (c1 (c2 (c2 b51)))))
noncomputable def b51e : Code := c2 (c2 (c2 b51))
theorem b51_eq : Try.f40.body = some (.seq b51a (.seq b51b (.seq (.seq b51c (.block 0 (.loop b51d))) b51e))) := by kernel_rfl
theorem cells_sgN (g : Nat → Nat) (k : Nat) (b : Bool) : (sgN k b).cells.map (valC (sigN g)) = (sgV (g k) b).cells.toList := by
  have h : Value.agg ((sgN k b).cells.map (valC (sigN g))).toArray = sgV (g k) b := val_sgN g k b
  rw [← h]
  simp [Value.cells]
def zsC : List C := z8.cells ++ [.v (.bool false)]
def onC : List C := (mag 1).cells ++ [.v (.bool false)]
theorem cells_on (σ : Nat → Int) : onC.map (valC σ) = (sgV 1 false).cells.toList := by kernel_rfl
theorem cells_zs (σ : Nat → Int) : zsC.map (valC σ) = (sgV 0 false).cells.toList := by kernel_rfl
def nE : V1 := .one (.ex .i64 (.inp .u64 (8 * 2 + 0)))
def bxP (b : Bool) (l : List C) : List BoxD := [⟨2, (sgN 0 b).cells, 69⟩, ⟨4, zsC, 69⟩, ⟨6, l, 69⟩]
def vsP (f : Bool) (j : Int) : List (Nat × V) := [(1, .s nE), (7, .s (b1 f)), (8, .s (i1 j))]
theorem pow_a (σ : Nat → Int) (b : Bool) (o : Nat → V) : fragX (envS σ [] []) 100 b51a 44 [] [(0, .s (sgN 0 b)), (1, .s nE)] o .normal [⟨2, (sgN 0 b).cells, 69⟩, ⟨4, zsC, 69⟩] [(1, .s nE)] = true := by cases b <;> kernel_rfl
theorem pow_b (σ : Nat → Int) (b : Bool) (o : Nat → V) : fragX (envS σ [] []) 100 b51b 44 [⟨2, (sgN 0 b).cells, 69⟩, ⟨4, zsC, 69⟩] [(1, .s nE)] o .normal (bxP b onC) [(1, .s nE), (7, .s (b1 true))] = true := by cases b <;> kernel_rfl
theorem ten {L : Nat} (h : L ≤ 10) : L = 0 ∨ L = 1 ∨ L = 2 ∨ L = 3 ∨ L = 4 ∨ L = 5 ∨ L = 6 ∨ L = 7 ∨ L = 8 ∨ L = 9 ∨ L = 10 := by omega
def rowLen (L : Nat) : Row := ⟨66, [.one (.ex .u64 (.wrap .u64 (.inp .u64 (8 * 2 + 0))))], .s (i1 L)⟩
theorem pow_c (σ : Nat → Int) (b : Bool) (L : Nat) (hL : L ≤ 10) (o : Nat → V) : fragX (envS σ [rowLen L] []) 100 b51c 44 (bxP b onC) [(1, .s nE), (7, .s (b1 true))] o .normal (bxP b onC) (vsP true ((L : Int) - 1)) = true := by
  rcases ten hL with rfl | rfl | rfl | rfl | rfl | rfl | rfl | rfl | rfl | rfl | rfl <;> cases b <;> kernel_rfl
def bitE (j : Nat) : Exp := .bin .and .i64 (.bin .shr .i64 (.inp .u64 (8 * 2 + 0)) (.lit (((j + 1 : Nat) : Int) - 1))) (.lit 1)
def bitT (j : Nat) (t : Bool) : Test := ⟨.eql, bitE j, .lit 1, t⟩
def rowSq (c f : Bool) : Row := ⟨67, [sgN 1 c, sgN 1 c], .tup [sgN 3 false, b1 f]⟩
def rowTi (b f : Bool) : Row := ⟨67, [sgN 3 false, sgN 0 b], .tup [sgN 4 b, b1 f]⟩
def atP (t : Nat) : Int := (t : Int) - 1
theorem pow_bad (σ : Nat → Int) (b c : Bool) (t : Nat) (hL : t + 1 ≤ 10) (o : Nat → V) : fragX (envS σ [rowSq c false] []) 100 b51d 44 (bxP b (sgN 1 c).cells) (vsP true (atP (t + 1))) o .normal (bxP b (sgN 3 false).cells) (vsP false (atP t)) = true := by
  rcases ten hL with h | h | h | h | h | h | h | h | h | h | h <;> first
    | (exfalso; omega; done)
    | (obtain rfl := Nat.succ.inj h; cases b <;> cases c <;> kernel_rfl)
theorem pow_even (σ : Nat → Int) (b c : Bool) (t : Nat) (hL : t + 1 ≤ 10) (o : Nat → V) : fragX (envS σ [rowSq c true] [bitT t false]) 100 b51d 44 (bxP b (sgN 1 c).cells) (vsP true (atP (t + 1))) o .normal (bxP b (sgN 3 false).cells) (vsP true (atP t)) = true := by
  rcases ten hL with h | h | h | h | h | h | h | h | h | h | h <;> first
    | (exfalso; omega; done)
    | (obtain rfl := Nat.succ.inj h; cases b <;> cases c <;> kernel_rfl)
theorem pow_odd (σ : Nat → Int) (b c f : Bool) (t : Nat) (hL : t + 1 ≤ 10) (o : Nat → V) : fragX (envS σ [rowSq c true, rowTi b f] [bitT t true]) 100 b51d 44 (bxP b (sgN 1 c).cells) (vsP true (atP (t + 1))) o .normal (bxP b (sgN 4 b).cells) (vsP f (atP t)) = true := by
  rcases ten hL with h | h | h | h | h | h | h | h | h | h | h <;> first
    | (exfalso; omega; done)
    | (obtain rfl := Nat.succ.inj h; cases b <;> cases c <;> cases f <;> kernel_rfl)
theorem pow_out (σ : Nat → Int) (b c f : Bool) (t : Nat) (hL : t ≤ 10) (h : t = 0 ∨ f = false) (o : Nat → V) : fragX (envS σ [] []) 100 b51d 44 (bxP b (sgN 1 c).cells) (vsP f (atP t)) o (.exit 0) (bxP b (sgN 1 c).cells) (vsP f (atP t)) = true := by
  rcases h with rfl | rfl
  · cases b <;> cases c <;> cases f <;> kernel_rfl
  · rcases ten hL with rfl | rfl | rfl | rfl | rfl | rfl | rfl | rfl | rfl | rfl | rfl <;> cases b <;> cases c <;> kernel_rfl
theorem pow_e (σ : Nat → Int) (b c f : Bool) (t : Nat) (hL : t ≤ 10) (o : Nat → V) : fragE (envS σ [] []) 100 b51e Try.f40 (bxP b (sgN 1 c).cells) (vsP f (atP t)) o (.tup [sgN 1 c, b1 f]) = true := by
  rcases ten hL with rfl | rfl | rfl | rfl | rfl | rfl | rfl | rfl | rfl | rfl | rfl <;> cases b <;> cases c <;> cases f <;> kernel_rfl
theorem bit_val {g : Nat → Nat} {n t : Nat} (hg : g 2 = n) (hn : n ≤ 600) (ht : t ≤ 9) : (bitE t).eval (sigN g) = ((n / 2 ^ t % 2 : Nat) : Int) := by
  have e2 : (Exp.inp .u64 (8 * 2 + 0)).eval (sigN g) = (n : Int) := by
    have e := inp_sigN g 2 0 (by decide)
    rw [hg, (dig_low (show n < 18446744073709551616 by omega)).1] at e
    exact e
  show numOf (intBin .and .i64 (numOf (shiftX .shr .i64 ((Exp.inp .u64 (8 * 2 + 0)).eval (sigN g)) (((t + 1 : Nat) : Int) - 1))) 1) = _
  unfold shiftX
  rw [if_neg (by omega)]
  show IntKind.i64.wrap ((BitVec.ofInt IntKind.i64.bits (Int.fdiv ((Exp.inp .u64 (8 * 2 + 0)).eval (sigN g)) (2 ^ (min (((t + 1 : Nat) : Int) - 1).toNat IntKind.i64.bits))) &&& BitVec.ofInt IntKind.i64.bits 1).toNat : Int) = _
  rw [e2, show (((t + 1 : Nat) : Int) - 1).toNat = t by omega, show IntKind.i64.bits = 64 from rfl, Nat.min_eq_left (by omega), Int.fdiv_eq_ediv_of_nonneg _ (Int.le_of_lt (Int.pow_pos (by decide)))]
  have h1 : (n : Int) / 2 ^ t = ((n / 2 ^ t : Nat) : Int) := by rw [Int.natCast_ediv, Int.natCast_pow]; rfl
  have h2 : n / 2 ^ t ≤ n := Nat.div_le_self _ _
  rw [h1]
  generalize n / 2 ^ t = v at *
  have h3 : (BitVec.ofInt 64 (v : Int) &&& BitVec.ofInt 64 1).toNat = v % 2 := by
    rw [BitVec.toNat_and, BitVec.toNat_ofInt, BitVec.toNat_ofInt]
    have q1 : ((v : Int) % ((2 ^ 64 : Nat) : Int)).toNat = v := by
      rw [show ((2 ^ 64 : Nat) : Int) = 18446744073709551616 by decide]; omega
    have q2 : ((1 : Int) % ((2 ^ 64 : Nat) : Int)).toNat = 1 := by decide
    rw [q1, q2, Nat.and_one_is_mod]
  rw [h3, wrap_i64 _ (by omega)]
/-- What the head of the loop knows. -/
def powI (W : World) (p : Nat) (b : Bool) (n L t : Nat) (a : Act) (w : World) : Prop := t ≤ L ∧ LInv W 44 (sigN (lst [p, (pwAt p b n L (L - t)).q, n])) (bxP b (sgN 1 (pwAt p b n L (L - t)).c).cells) (vsP (pwAt p b n L (L - t)).f (atP t)) a w
theorem bxP_turn {W : World} {g g' : Nat → Nat} {i j t : Nat} {b c f : Bool} {a : Act} {w : World} (h : LInv W 44 (sigN g) (bxP b (sgN i c).cells) (vsP f (atP t)) a w) (h0 : g' 0 = g 0) (h1 : g' j = g i) (h2 : g' 2 = g 2) : LInv W 44 (sigN g') (bxP b (sgN j c).cells) (vsP f (atP t)) a w := by
  refine h.turn (.cons ⟨rfl, rfl, by rw [cells_sgN, cells_sgN, h0]⟩ (.cons ⟨rfl, rfl, by rw [cells_zs, cells_zs]⟩ (.cons ⟨rfl, rfl, by rw [cells_sgN, cells_sgN, h1]⟩ .nil))) (fun p hp => ?_)
  simp only [vsP, List.mem_cons, List.not_mem_nil, or_false] at hp
  rcases hp with rfl | rfl | rfl
  · refine ⟨(1, .s nE), by simp [vsP], rfl, ?_⟩
    show Value.int .i64 ((Exp.inp .u64 (8 * 2 + 0)).eval (sigN g')) = Value.int .i64 ((Exp.inp .u64 (8 * 2 + 0)).eval (sigN g))
    rw [inp_sigN g' 2 0 (by decide), inp_sigN g 2 0 (by decide), h2]
  · exact ⟨(7, .s (b1 f)), by simp [vsP], rfl, rfl⟩
  · exact ⟨(8, .s (i1 (atP t))), by simp [vsP], rfl, rfl⟩
/-- (signed).power. -/
theorem f_power {p n : Nat} {b : Bool} (hp : p < 13407807929942597099574024998205846127479365820592393377723561443721764030073546976801874298166903427690031858186486050853753882811946569946433649006084096) (hn : n ≤ 600) : ∃ q c f, q < 13407807929942597099574024998205846127479365820592393377723561443721764030073546976801874298166903427690031858186486050853753882811946569946433649006084096 ∧ (f = true → q = p ^ n ∧ c = (b && decide (n % 2 = 1))) ∧ (f = false → 13407807929942597099574024998205846127479365820592393377723561443721764030073546976801874298166903427690031858186486050853753882811946569946433649006084096 ≤ p ^ n) ∧ Gives Try.prog 40 [sgV p b, .int .i64 n] (.tuple #[sgV q c, .bool f]) := by
  have hL : n < 2 ^ Lib.bitLen n ∧ Lib.bitLen n ≤ 10 := by
    have h10 : (2 : Nat) ^ 10 = 1024 := by decide
    refine ⟨?_, Lib.bitLen_le n 10 (by decide) (by omega)⟩
    by_cases h0 : n = 0
    · subst h0; exact Nat.two_pow_pos _
    · exact (bitLen_facts h0 (by omega)).2.2.2
  have hlen := f_lenU n (by omega)
  generalize Lib.bitLen n = L at *
  obtain ⟨hL, hL10⟩ := hL
  obtain ⟨s1, s2⟩ := pw_spec (p := p) (b := b) hL L (Nat.le_refl _)
  rw [Nat.sub_self, Nat.pow_zero, Nat.div_one] at s1
  refine ⟨(pwAt p b n L L).q, (pwAt p b n L L).c, (pwAt p b n L L).f, pwAt_lt L, s1, s2, ?_⟩
  clear s1 s2
  refine gives_of (enters_of Try.func40 (by kernel_rfl) rfl) fun w => ?_
  have key : ∀ (g : Nat → Nat) (a : Act) (w' : World), g 0 = p → g 1 = 1 → g 2 = n → LInv w 44 (sigN g) [] [(0, .s (sgN 0 b)), (1, .s nE)] a w' → (Code.seq b51a (.seq b51b (.seq (.seq b51c (.block 0 (.loop b51d))) b51e))).wp Try.prog (bodyPost Try.prog Try.f40 (@Gets (fun _ r' => r' = .tuple #[sgV (pwAt p b n L L).q (pwAt p b n L L).c, .bool (pwAt p b n L L).f]) w)) a w' := by
    intro g a w' g0 g1 g2 hI
    refine wp_seq (frag (E := envS (sigN g) [] []) (envS_ok no_row no_test w) (pow_a _ b) hI fun a w' hI => ?_)
    refine wp_seq (frag (E := envS (sigN g) [] []) (envS_ok no_row no_test w) (pow_b _ b) hI fun a w' hI => ?_)
    have e2 : (Exp.inp .u64 (8 * 2 + 0)).eval (sigN g) = (n : Int) := by
      have e := inp_sigN g 2 0 (by decide)
      rw [g2, (dig_low (show n < 18446744073709551616 by omega)).1] at e
      exact e
    have k1 : RowGives Try.prog (sigN g) (rowLen L) := by
      refine ⟨rfl, ?_⟩
      show Gives Try.prog 66 [.int .u64 (IntKind.u64.wrap ((Exp.inp .u64 (8 * 2 + 0)).eval (sigN g)))] (.int .i64 L)
      rw [e2, wrap_u64, Int.emod_eq_of_lt (by omega) (by omega)]
      exact hlen
    refine wp_seq (wp_seq (frag (E := envS (sigN g) [rowLen L] []) (envS_ok (one_row k1) no_test w) (pow_c _ b L hL10) hI fun a w' hI => ?_))
    have hI : LInv w 44 (sigN g) (bxP b (sgN 1 false).cells) (vsP true (atP L)) a w' :=
      hI.turn (.cons ⟨rfl, rfl, rfl⟩ (.cons ⟨rfl, rfl, rfl⟩ (.cons ⟨rfl, rfl, by rw [cells_on, cells_sgN, g1]⟩ .nil))) (fun p hp => ⟨p, hp, rfl, rfl⟩)
    refine wp_block (loop_ind (powI w p b n L) (fun t => t) ?_ (x := L) ⟨Nat.le_refl _, by rw [Nat.sub_self]; exact bxP_turn hI g0.symm g1.symm g2.symm⟩)
    clear hI k1 e2
    rintro t a w' ⟨ht, hI⟩
    by_cases hout : t = 0 ∨ (pwAt p b n L (L - t)).f = false
    · refine frag (E := envS (sigN _) [] []) (envS_ok no_row no_test w) (pow_out _ b _ _ t (by omega) hout) hI fun a w' hI => ?_
      have hq : pwAt p b n L (L - t) = pwAt p b n L L := by
        rcases hout with h | h
        · subst h; rw [Nat.sub_zero]
        · have := pwAt_stuck h t
          rw [show L - t + t = L by omega] at this
          exact this.symm
      rw [hq] at hI
      simp only [exOf, Exit.then, Exit.inBlock, if_true]
      refine frag_end (E := envS (sigN _) [] []) (envS_ok no_row no_test w) (fn := Try.f40) (pow_e _ b _ _ t (by omega)) hI (R := @Gets (fun _ r' => r' = .tuple #[sgV (pwAt p b n L L).q (pwAt p b n L L).c, .bool (pwAt p b n L L).f]) w) (fun w' hb => ⟨_, rfl, ?_, hb⟩) (fun a w h => h)
      show valV (sigN (lst [p, (pwAt p b n L L).q, n])) (.tup [sgN 1 (pwAt p b n L L).c, b1 (pwAt p b n L L).f]) = _
      rw [valV_tup2, val_sgN, val_b1]; rfl
    · obtain ⟨t, rfl⟩ : ∃ u, t = u + 1 := ⟨t - 1, by omega⟩
      have hf : (pwAt p b n L (L - (t + 1))).f = true := by
        cases h : (pwAt p b n L (L - (t + 1))).f with
        | true => rfl
        | false => exact absurd (.inr h) hout
      have hst : pwAt p b n L (L - t) = pwStep p b (pwAt p b n L (L - (t + 1))) (decide (n / 2 ^ t % 2 = 1)) := by
        rw [show L - t = L - (t + 1) + 1 by omega]
        show pwStep p b _ (decide (n / 2 ^ (L - 1 - (L - (t + 1))) % 2 = 1)) = _
        rw [show L - 1 - (L - (t + 1)) = t by omega]
      have hq := pwAt_lt (p := p) (b := b) (n := n) (L := L) (L - (t + 1))
      have hnext : ∀ a w', LInv w 44 (sigN (lst [p, (pwAt p b n L (L - t)).q, n])) (bxP b (sgN 1 (pwAt p b n L (L - t)).c).cells) (vsP (pwAt p b n L (L - t)).f (atP t)) a w' → ∃ y, powI w p b n L y a w' ∧ y < t + 1 := fun a w' h => ⟨t, ⟨by omega, h⟩, Nat.lt_succ_self _⟩
      rw [hst] at hnext
      generalize pwAt p b n L (L - (t + 1)) = s at *
      obtain ⟨q, c, f⟩ := s
      simp only at hf hq hI
      subst hf
      unfold pwStep at hnext
      rw [if_pos rfl] at hnext
      simp only at hnext
      have hI := bxP_turn (g' := lst [p, q, n, q * q % 13407807929942597099574024998205846127479365820592393377723561443721764030073546976801874298166903427690031858186486050853753882811946569946433649006084096, q * q % 13407807929942597099574024998205846127479365820592393377723561443721764030073546976801874298166903427690031858186486050853753882811946569946433649006084096 * p % 13407807929942597099574024998205846127479365820592393377723561443721764030073546976801874298166903427690031858186486050853753882811946569946433649006084096]) (j := 1) hI rfl rfl rfl
      have v0 : lst [p, q, n, q * q % 13407807929942597099574024998205846127479365820592393377723561443721764030073546976801874298166903427690031858186486050853753882811946569946433649006084096, q * q % 13407807929942597099574024998205846127479365820592393377723561443721764030073546976801874298166903427690031858186486050853753882811946569946433649006084096 * p % 13407807929942597099574024998205846127479365820592393377723561443721764030073546976801874298166903427690031858186486050853753882811946569946433649006084096] 0 = p := rfl
      have v1 : lst [p, q, n, q * q % 13407807929942597099574024998205846127479365820592393377723561443721764030073546976801874298166903427690031858186486050853753882811946569946433649006084096, q * q % 13407807929942597099574024998205846127479365820592393377723561443721764030073546976801874298166903427690031858186486050853753882811946569946433649006084096 * p % 13407807929942597099574024998205846127479365820592393377723561443721764030073546976801874298166903427690031858186486050853753882811946569946433649006084096] 1 = q := rfl
      have v2 : lst [p, q, n, q * q % 13407807929942597099574024998205846127479365820592393377723561443721764030073546976801874298166903427690031858186486050853753882811946569946433649006084096, q * q % 13407807929942597099574024998205846127479365820592393377723561443721764030073546976801874298166903427690031858186486050853753882811946569946433649006084096 * p % 13407807929942597099574024998205846127479365820592393377723561443721764030073546976801874298166903427690031858186486050853753882811946569946433649006084096] 2 = n := rfl
      have v3 : lst [p, q, n, q * q % 13407807929942597099574024998205846127479365820592393377723561443721764030073546976801874298166903427690031858186486050853753882811946569946433649006084096, q * q % 13407807929942597099574024998205846127479365820592393377723561443721764030073546976801874298166903427690031858186486050853753882811946569946433649006084096 * p % 13407807929942597099574024998205846127479365820592393377723561443721764030073546976801874298166903427690031858186486050853753882811946569946433649006084096] 3 = q * q % 13407807929942597099574024998205846127479365820592393377723561443721764030073546976801874298166903427690031858186486050853753882811946569946433649006084096 := rfl
      have v4 : lst [p, q, n, q * q % 13407807929942597099574024998205846127479365820592393377723561443721764030073546976801874298166903427690031858186486050853753882811946569946433649006084096, q * q % 13407807929942597099574024998205846127479365820592393377723561443721764030073546976801874298166903427690031858186486050853753882811946569946433649006084096 * p % 13407807929942597099574024998205846127479365820592393377723561443721764030073546976801874298166903427690031858186486050853753882811946569946433649006084096] 4 = q * q % 13407807929942597099574024998205846127479365820592393377723561443721764030073546976801874298166903427690031858186486050853753882811946569946433649006084096 * p % 13407807929942597099574024998205846127479365820592393377723561443721764030073546976801874298166903427690031858186486050853753882811946569946433649006084096 := rfl
      generalize lst [p, q, n, q * q % 13407807929942597099574024998205846127479365820592393377723561443721764030073546976801874298166903427690031858186486050853753882811946569946433649006084096, q * q % 13407807929942597099574024998205846127479365820592393377723561443721764030073546976801874298166903427690031858186486050853753882811946569946433649006084096 * p % 13407807929942597099574024998205846127479365820592393377723561443721764030073546976801874298166903427690031858186486050853753882811946569946433649006084096] = g at *
      have k1 : ∀ f, decide (q * q < 13407807929942597099574024998205846127479365820592393377723561443721764030073546976801874298166903427690031858186486050853753882811946569946433649006084096) = f → RowGives Try.prog (sigN g) (rowSq c f) := fun f hf => by
        refine ⟨by cases c <;> rfl, ?_⟩
        simp only [rowSq, List.map_cons, List.map_nil, val_sgN, valV_tup2, val_b1, v1, v3]
        have := f_timesG q q c c hq hq
        rw [← hf]
        rw [show (c != c) = false by cases c <;> rfl] at this
        exact this
      have k2 : RowGives Try.prog (sigN g) (rowTi b (decide (q * q % 13407807929942597099574024998205846127479365820592393377723561443721764030073546976801874298166903427690031858186486050853753882811946569946433649006084096 * p < 13407807929942597099574024998205846127479365820592393377723561443721764030073546976801874298166903427690031858186486050853753882811946569946433649006084096))) := by
        refine ⟨by cases b <;> rfl, ?_⟩
        simp only [rowTi, List.map_cons, List.map_nil, val_sgN, valV_tup2, val_b1, v0, v3, v4]
        have := f_timesG (q * q % 13407807929942597099574024998205846127479365820592393377723561443721764030073546976801874298166903427690031858186486050853753882811946569946433649006084096) p false b (Nat.mod_lt _ (by decide)) hp
        rw [show (false != b) = b by cases b <;> rfl] at this
        exact this
      have hbv := bit_val v2 hn (show t ≤ 9 by omega)
      have hb2 : n / 2 ^ t % 2 < 2 := Nat.mod_lt _ (by decide)
      by_cases h1 : q * q < 13407807929942597099574024998205846127479365820592393377723561443721764030073546976801874298166903427690031858186486050853753882811946569946433649006084096
      · rw [if_pos h1] at hnext
        by_cases h2 : n / 2 ^ t % 2 = 1
        · rw [decide_eq_true h2, if_pos rfl] at hnext
          have ht : ∀ x ∈ [bitT t true], TestOk (sigN g) x := by
            intro x hx k
            simp only [List.mem_cons, List.not_mem_nil, or_false] at hx
            subst hx
            simp only [bitT, intBin, hbv, h2, Exp.eval]
            rfl
          refine frag (E := envS (sigN g) _ _) (envS_ok (more_row (k1 true (decide_eq_true h1)) (one_row k2)) ht w) (pow_odd _ b c _ t (by omega)) hI fun a w' hI => ?_
          exact hnext a w' (bxP_turn hI (by rw [v0]; rfl) (by rw [v4]; rfl) (by rw [v2]; rfl))
        · rw [decide_eq_false h2, if_neg (by decide)] at hnext
          have ht : ∀ x ∈ [bitT t false], TestOk (sigN g) x := by
            intro x hx k
            simp only [List.mem_cons, List.not_mem_nil, or_false] at hx
            subst hx
            have h3 : n / 2 ^ t % 2 = 0 := by omega
            simp only [bitT, intBin, hbv, h3, Exp.eval]
            rfl
          refine frag (E := envS (sigN g) _ _) (envS_ok (one_row (k1 true (decide_eq_true h1))) ht w) (pow_even _ b c t (by omega)) hI fun a w' hI => ?_
          exact hnext a w' (bxP_turn hI (by rw [v0]; rfl) (by rw [v3]; rfl) (by rw [v2]; rfl))
      · rw [if_neg h1] at hnext
        refine frag (E := envS (sigN g) _ []) (envS_ok (one_row (k1 false (decide_eq_false h1))) no_test w) (pow_bad _ b c t (by omega)) hI fun a w' hI => ?_
        exact hnext a w' (bxP_turn hI (by rw [v0]; rfl) (by rw [v3]; rfl) (by rw [v2]; rfl))
  have e2 : (Exp.inp .u64 (8 * 2 + 0)).eval (sigN (lst [p, 1, n])) = (n : Int) := by
    have e := inp_sigN (lst [p, 1, n]) 2 0 (by decide)
    rw [show lst [p, 1, n] 2 = n from rfl, (dig_low (show n < 18446744073709551616 by omega)).1] at e
    exact e
  have := enter_inv (P := Try.prog) (f := 40) (fn := Try.f40) Try.func40 b51_eq (l := [sgN 0 b, nE]) (by cases b <;> kernel_rfl) (sigN (lst [p, 1, n])) (w := w) (R := @Gets (fun _ r' => r' = .tuple #[sgV (pwAt p b n L L).q (pwAt p b n L L).c, .bool (pwAt p b n L L).f]) w) (fun a hI => key _ a w rfl rfl rfl hI)
  rwa [show [sgN 0 b, nE].map (val1 (sigN (lst [p, 1, n]))) = [sgV p b, .int .i64 n] by
    simp only [List.map_cons, List.map_nil, val_sgN]
    show [sgV p b, Value.int .i64 ((Exp.inp .u64 (8 * 2 + 0)).eval (sigN (lst [p, 1, n])))] = _
    rw [e2]] at this
end Go.Proofs.Ytedhjlkidcojhaa
