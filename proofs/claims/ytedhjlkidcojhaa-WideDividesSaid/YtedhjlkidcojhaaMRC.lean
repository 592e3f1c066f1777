/-
  The greatest common divisor: of magnitudes, and wide.Gcd, for every value.
-/
import Derived.Test.YtedhjlkidcojhaaMRB
import Derived.Test.YtedhjlkidcojhaaMZ
set_option linter.all false
namespace Go.Proofs.Ytedhjlkidcojhaa
open Go Go.Rx Go.RowKit Go.Big
noncomputable def b64 : Code := Try.f58.body.getD .skip
noncomputable def b64l : List Code := [nthC 0 b64, nthC 1 b64]
noncomputable def b64d : Code := c1 (c1 (nthC 2 b64))
noncomputable def b64e : Code := c2 (c2 (c2 b64))
theorem b64_eq : Try.f58.body = some (seqs b64l (.seq (.block 0 (.loop b64d)) b64e)) := by kernel_rfl
def bx3 (i j : Nat) : List BoxD := [⟨2, (inN i).cells, 67⟩, ⟨3, (inN j).cells, 67⟩, ⟨4, z8.cells, 67⟩]
theorem cd_a (σ : Nat → Int) (q : Int) (h : q = 0 ∨ q = 1) (o : Nat → V) : fragS (envS σ [⟨55, [inN 0, inN 1], .s (i1 q)⟩] []) 100 b64l 37 [] [(0, .s (inN 0)), (1, .s (inN 1))] o (bx3 0 1) [] = true := by
  rcases h with rfl | rfl <;> kernel_rfl
theorem cd_b (σ : Nat → Int) (o : Nat → V) : fragS (envS σ [⟨55, [inN 0, inN 1], .s (i1 (-1))⟩] []) 100 b64l 37 [] [(0, .s (inN 0)), (1, .s (inN 1))] o (bx3 1 0) [] = true := by kernel_rfl
theorem cd_d (σ : Nat → Int) (L : Nat) (h : L ≤ 8) (h2 : 2 ≤ L) (o : Nat → V) : fragX (envS σ [⟨85, [inN 1], .s (i1 L)⟩, ⟨86, [inN 0, inN 1], .tup [inN 2, inN 3]⟩] []) 100 b64d 37 (bx3 0 1) [] o .normal (bx3 2 3) [] = true := by
  rcases nine h with rfl | rfl | rfl | rfl | rfl | rfl | rfl | rfl | rfl <;> first
    | (exfalso; omega; done)
    | kernel_rfl
theorem cd_o (σ : Nat → Int) (L : Nat) (h : L = 0 ∨ L = 1) (o : Nat → V) : fragX (envS σ [⟨85, [inN 1], .s (i1 L)⟩] []) 100 b64d 37 (bx3 0 1) [] o (.exit 0) (bx3 0 1) [] = true := by
  rcases h with rfl | rfl <;> kernel_rfl
theorem cd_e0 (σ : Nat → Int) (o : Nat → V) : fragE (envS σ [⟨74, [inN 1], .s (b1 true)⟩] []) 100 b64e Try.f58 (bx3 0 1) [] o (.s (inN 0)) = true := by kernel_rfl
def lowW (k : Nat) : V1 := .agg [.ex .u64 (wdE k), .v (.int .u64 0), .v (.int .u64 0), .v (.int .u64 0), .v (.int .u64 0), .v (.int .u64 0), .v (.int .u64 0), .v (.int .u64 0)]
theorem cd_e1 (σ : Nat → Int) (o : Nat → V) : fragE (envS σ [⟨74, [inN 1], .s (b1 false)⟩, ⟨87, [inN 0, x1 (wdE 1)], .tup [inN 2, x1 (wdE 3)]⟩, ⟨88, [x1 (wdE 1), x1 (wdE 3)], .s (x1 (wdE 4))⟩] []) 100 b64e Try.f58 (bx3 0 1) [] o (.s (lowW 4)) = true := by kernel_rfl
theorem val_lowW {g : Nat → Nat} {k v : Nat} (hg : g k = v) (hv : v < 18446744073709551616) : val1 (sigN g) (lowW k) = magV v := by
  show Value.agg #[.int .u64 ((wdE k).eval (sigN g)), .int .u64 0, .int .u64 0, .int .u64 0, .int .u64 0, .int .u64 0, .int .u64 0, .int .u64 0] = _
  rw [show (wdE k).eval (sigN g) = (v : Int) from low_inp' hg hv]
  obtain ⟨d0, d1, d2, d3, d4, d5, d6, d7⟩ := dig_low hv
  unfold magV
  rw [d0, d1, d2, d3, d4, d5, d6, d7]; rfl
theorem bx3_turn {W : World} {g g' : Nat → Nat} {i j : Nat} {a : Act} {w : World} (h : LInv W 37 (sigN g) (bx3 i j) [] a w) (h0 : g' 0 = g i) (h1 : g' 1 = g j) : LInv W 37 (sigN g') (bx3 0 1) [] a w :=
  h.turn (.cons ⟨rfl, rfl, by rw [cells_val, cells_val, h0]⟩ (.cons ⟨rfl, rfl, by rw [cells_val, cells_val, h1]⟩ (.cons ⟨rfl, rfl, by rw [cells_z8, cells_z8]⟩ .nil))) (fun p hp => by cases hp)
theorem len_small {n L : Nat} (h : hasLen n L) : (2 ≤ L → 18446744073709551616 ≤ n) ∧ (L ≤ 1 → n < 18446744073709551616) := by
  have e : (2 : Nat) ^ (64 * 1) = 18446744073709551616 := by decide
  refine ⟨fun hL => ?_, fun hL => ?_⟩
  · rcases Nat.lt_or_ge n 18446744073709551616 with h1 | h1
    · exfalso
      exact h.2 (by omega) (dig_high (L := 1) (by rw [e]; exact h1) (by omega))
    · exact h1
  · have h1 : 2 ^ (64 * L) ≤ 2 ^ (64 * 1) := Nat.pow_le_pow_right (by decide) (by omega)
    rw [e] at h1
    exact Nat.lt_of_lt_of_le h.1 h1
def cdI (W : World) (G : Nat) (p : Nat × Nat) (a : Act) (w : World) : Prop := (p.1 < 13407807929942597099574024998205846127479365820592393377723561443721764030073546976801874298166903427690031858186486050853753882811946569946433649006084096 ∧ p.2 ≤ p.1 ∧ Nat.gcd p.1 p.2 = G) ∧ LInv W 37 (sigN (lst [p.1, p.2])) (bx3 0 1) [] a w
/-- What stands behind the first comparison. -/
theorem cd_rest {W : World} {m n G : Nat} (hm : m < 13407807929942597099574024998205846127479365820592393377723561443721764030073546976801874298166903427690031858186486050853753882811946569946433649006084096) (hn : n ≤ m) (hG : Nat.gcd m n = G) {a : Act} {w : World} (hI : LInv W 37 (sigN (lst [m, n])) (bx3 0 1) [] a w) : (Code.seq (.block 0 (.loop b64d)) b64e).wp Try.prog (bodyPost Try.prog Try.f58 (@Gets (fun _ r' => r' = magV G) W)) a w := by
  refine wp_seq (wp_block (loop_ind (cdI W G) (fun p => p.2) ?_ (x := (m, n)) ⟨⟨hm, hn, hG⟩, hI⟩))
  clear hI hm hn hG
  rintro ⟨m, n⟩ a w ⟨⟨hm, hn, hG⟩, hI⟩
  simp only at hm hn hG hI
  obtain ⟨L, hL, hl⟩ := has_len n 8 (by rw [p2_eight]; omega)
  obtain ⟨s2, s1⟩ := len_small hl
  have k1 : ∀ g : Nat → Nat, g 1 = n → RowGives Try.prog (sigN g) ⟨85, [inN 1], .s (i1 L)⟩ := fun g hg => by
    refine ⟨rfl, ?_⟩
    simp only [List.map_cons, List.map_nil, val_inN, valV_s, val_i1, hg]
    exact f_length n L hL hl
  by_cases h2 : 2 ≤ L
  · obtain ⟨m', n', c1', c2', c3', hg⟩ := f_reduce hm hn (s2 h2)
    have hI := bx3_turn (g' := lst [m, n, m', n']) hI rfl rfl
    have k2 : RowGives Try.prog (sigN (lst [m, n, m', n'])) ⟨86, [inN 0, inN 1], .tup [inN 2, inN 3]⟩ := by
      refine ⟨rfl, ?_⟩
      simp only [List.map_cons, List.map_nil, val_inN, valV_tup2]
      exact hg
    refine frag (E := envS (sigN (lst [m, n, m', n'])) _ []) (envS_ok (more_row (k1 _ rfl) (one_row k2)) no_test W) (cd_d _ L hL h2) hI fun a w' hI => ?_
    refine ⟨(m', n'), ⟨⟨by show m' < 13407807929942597099574024998205846127479365820592393377723561443721764030073546976801874298166903427690031858186486050853753882811946569946433649006084096; omega, Nat.le_of_lt c1', by show Nat.gcd m' n' = G; rw [c3', hG]⟩, bx3_turn hI rfl rfl⟩, by show n' < n; omega⟩
  · have hs := s1 (by omega)
    refine frag (E := envS (sigN (lst [m, n])) _ []) (envS_ok (one_row (k1 _ rfl)) no_test W) (cd_o _ L (by omega)) hI fun a w' hI => ?_
    simp only [exOf, Exit.then, Exit.inBlock, if_true]
    by_cases h0 : n = 0
    · subst h0
      have k3 : RowGives Try.prog (sigN (lst [m, 0])) ⟨74, [inN 1], .s (b1 true)⟩ := by
        refine ⟨rfl, ?_⟩
        simp only [List.map_cons, List.map_nil, val_inN, valV_s, val_b1]
        exact f_isZero 0 (by decide)
      refine frag_end (E := envS (sigN (lst [m, 0])) _ []) (envS_ok (one_row k3) no_test W) (fn := Try.f58) (cd_e0 _) hI (R := @Gets (fun _ r' => r' = magV G) W) (fun w' hb => ⟨_, rfl, ?_, hb⟩) (fun a w h => h)
      show valV (sigN (lst [m, 0])) (.s (inN 0)) = _
      rw [valV_s, val_inN, ← hG, Nat.gcd_zero_right]; rfl
    · have hr := Nat.mod_lt m (show 0 < n by omega)
      have hgc : Nat.gcd n (m % n) = G := by rw [← hG, Nat.gcd_comm n, ← Nat.gcd_rec, Nat.gcd_comm]
      have hgl : Nat.gcd n (m % n) ≤ n := Nat.le_of_dvd (by omega) (Nat.gcd_dvd_left _ _)
      have hI := bx3_turn (g' := lst [m, n, m / n, m % n, Nat.gcd n (m % n)]) hI rfl rfl
      have e1 : (wdE 1).eval (sigN (lst [m, n, m / n, m % n, Nat.gcd n (m % n)])) = (n : Int) := low_inp' rfl hs
      have e3 : (wdE 3).eval (sigN (lst [m, n, m / n, m % n, Nat.gcd n (m % n)])) = ((m % n : Nat) : Int) := low_inp' rfl (by omega)
      have e4 : (wdE 4).eval (sigN (lst [m, n, m / n, m % n, Nat.gcd n (m % n)])) = ((Nat.gcd n (m % n) : Nat) : Int) := low_inp' rfl (by omega)
      have k3 : RowGives Try.prog (sigN (lst [m, n, m / n, m % n, Nat.gcd n (m % n)])) ⟨74, [inN 1], .s (b1 false)⟩ := by
        refine ⟨rfl, ?_⟩
        simp only [List.map_cons, List.map_nil, val_inN, valV_s, val_b1]
        have := f_isZero n (by omega)
        rwa [decide_eq_false h0] at this
      have k4 : RowGives Try.prog (sigN (lst [m, n, m / n, m % n, Nat.gcd n (m % n)])) ⟨87, [inN 0, x1 (wdE 1)], .tup [inN 2, x1 (wdE 3)]⟩ := by
        refine ⟨rfl, ?_⟩
        simp only [List.map_cons, List.map_nil, val_inN, val_x1, valV_tup2, e1, e3]
        exact f_divWordG m n hm ⟨by omega, hs⟩
      have k5 : RowGives Try.prog (sigN (lst [m, n, m / n, m % n, Nat.gcd n (m % n)])) ⟨88, [x1 (wdE 1), x1 (wdE 3)], .s (x1 (wdE 4))⟩ := by
        refine ⟨rfl, ?_⟩
        simp only [List.map_cons, List.map_nil, val_x1, valV_s, e1, e3, e4]
        exact f_wordGcd hs (by omega)
      refine frag_end (E := envS (sigN (lst [m, n, m / n, m % n, Nat.gcd n (m % n)])) _ []) (envS_ok (more_row k3 (more_row k4 (one_row k5))) no_test W) (fn := Try.f58) (cd_e1 _) hI (R := @Gets (fun _ r' => r' = magV G) W) (fun w' hb => ⟨_, rfl, ?_, hb⟩) (fun a w h => h)
      show valV (sigN (lst [m, n, m / n, m % n, Nat.gcd n (m % n)])) (.s (lowW 4)) = _
      rw [valV_s]
      exact (val_lowW (g := lst [m, n, m / n, m % n, Nat.gcd n (m % n)]) (k := 4) (v := Nat.gcd n (m % n)) rfl (by omega)).trans (by rw [hgc])
/-- (magnitude).commonDivisor. -/
theorem f_gcdM {m n : Nat} (hm : m < 13407807929942597099574024998205846127479365820592393377723561443721764030073546976801874298166903427690031858186486050853753882811946569946433649006084096) (hn : n < 13407807929942597099574024998205846127479365820592393377723561443721764030073546976801874298166903427690031858186486050853753882811946569946433649006084096) : Gives Try.prog 58 [magV m, magV n] (magV (Nat.gcd m n)) := by
  refine gives_of (enters_of Try.func58 (by kernel_rfl) rfl) fun w => ?_
  have key : ∀ (a : Act) (w' : World), LInv w 37 (sigN (lst [m, n])) [] [(0, .s (inN 0)), (1, .s (inN 1))] a w' → (seqs b64l (.seq (.block 0 (.loop b64d)) b64e)).wp Try.prog (bodyPost Try.prog Try.f58 (@Gets (fun _ r' => r' = magV (Nat.gcd m n)) w)) a w' := by
    intro a w' hI
    have k1 : ∀ q, cmpI m n = q → RowGives Try.prog (sigN (lst [m, n])) ⟨55, [inN 0, inN 1], .s (i1 q)⟩ := fun q hq => by
      refine ⟨rfl, ?_⟩
      simp only [List.map_cons, List.map_nil, val_inN, valV_s, val_i1]
      rw [← hq]
      exact f_compare m n hm hn
    rcases Nat.lt_or_ge m n with hlt | hge
    · have hc : cmpI m n = -1 := by unfold cmpI; rw [if_pos (by omega)]
      refine frags (E := envS (sigN (lst [m, n])) _ []) (envS_ok (one_row (k1 _ hc)) no_test w) (cd_b _) hI fun a w' hI => ?_
      exact cd_rest hn (Nat.le_of_lt hlt) (Nat.gcd_comm n m) (bx3_turn hI rfl rfl)
    · have hc : cmpI m n = 0 ∨ cmpI m n = 1 := by
        unfold cmpI
        rw [if_neg (by omega)]
        split
        · exact .inr rfl
        · exact .inl rfl
      refine frags (E := envS (sigN (lst [m, n])) _ []) (envS_ok (one_row (k1 _ rfl)) no_test w) (cd_a _ _ hc) hI fun a w' hI => ?_
      exact cd_rest hm hge rfl hI
  have := enter_inv (P := Try.prog) (f := 58) (fn := Try.f58) Try.func58 b64_eq (l := [inN 0, inN 1]) (by kernel_rfl) (sigN (lst [m, n])) (w := w) (R := @Gets (fun _ r' => r' = magV (Nat.gcd m n)) w) (fun a hI => key a w hI)
  rwa [show [inN 0, inN 1].map (val1 (sigN (lst [m, n]))) = [magV m, magV n] by simp only [List.map_cons, List.map_nil, val_inN]; rfl] at this
theorem Gcd_run (σ : Nat → Int) (b c : Bool) (e : Int) (h : e = 0 ∨ e = 6) : runs σ [⟨39, [inN 0], .s (sgN 2 b)⟩, ⟨39, [inN 1], .s (sgN 3 c)⟩, ⟨58, [inN 2, inN 3], .s (inN 4)⟩, ⟨38, [sgN 4 false, b1 true], .tup [inN 5, i1 e]⟩] [] ⟨28, [inN 0, inN 1], .tup [inN 5, i1 e]⟩ 100 = true := by
  rcases h with rfl | rfl <;> cases b <;> cases c <;> kernel_rfl
/-- Gcd. -/
theorem f_Gcd (x y : Int) (hx : fit x) (hy : fit y) : Gives Try.prog 28 [W x, W y] (resV ((Nat.gcd x.natAbs y.natAbs : Nat) : Int) (fit ((Nat.gcd x.natAbs y.natAbs : Nat) : Int))) := by
  have hp := p512_nat
  have hxp : x.natAbs < 13407807929942597099574024998205846127479365820592393377723561443721764030073546976801874298166903427690031858186486050853753882811946569946433649006084096 := by unfold fit P511 at hx; omega
  have hyp : y.natAbs < 13407807929942597099574024998205846127479365820592393377723561443721764030073546976801874298166903427690031858186486050853753882811946569946433649006084096 := by unfold fit P511 at hy; omega
  have hG : Nat.gcd x.natAbs y.natAbs < 13407807929942597099574024998205846127479365820592393377723561443721764030073546976801874298166903427690031858186486050853753882811946569946433649006084096 := by
    rcases Nat.eq_zero_or_pos x.natAbs with h | h
    · rw [h, Nat.gcd_zero_left]; exact hyp
    · exact Nat.lt_of_le_of_lt (Nat.le_of_dvd h (Nat.gcd_dvd_left _ _)) hxp
  have hgm := f_gcdM hxp hyp
  generalize Nat.gcd x.natAbs y.natAbs = G at *
  have hr := f_wideOf G false true hG
  have hre : (if true = true ∧ fit (sg G false) then outV (sg G false) else bigV) = resV (G : Int) (fit (G : Int)) := by
    show (if true = true ∧ fit (G : Int) then outV (G : Int) else bigV) = _
    unfold resV
    by_cases h : fit (G : Int)
    · rw [if_pos ⟨rfl, h⟩, if_pos h]
    · rw [if_neg (fun q => h q.2), if_neg h]
  rw [hre] at hr
  obtain ⟨r, e, he, hre⟩ := resV_eq (G : Int) (fit (G : Int))
  rw [hre] at hr ⊢
  have g0 : lst [un x, un y, x.natAbs, y.natAbs, G, un r] 0 = un x := rfl
  have g1 : lst [un x, un y, x.natAbs, y.natAbs, G, un r] 1 = un y := rfl
  have g2 : lst [un x, un y, x.natAbs, y.natAbs, G, un r] 2 = x.natAbs := rfl
  have g3 : lst [un x, un y, x.natAbs, y.natAbs, G, un r] 3 = y.natAbs := rfl
  have g4 : lst [un x, un y, x.natAbs, y.natAbs, G, un r] 4 = G := rfl
  have g5 : lst [un x, un y, x.natAbs, y.natAbs, G, un r] 5 = un r := rfl
  generalize lst [un x, un y, x.natAbs, y.natAbs, G, un r] = g at *
  have k1 : RowGives Try.prog (sigN g) ⟨39, [inN 0], .s (sgN 2 (decide (x < 0)))⟩ := by
    refine row_of (f_signedOf x hx) (by cases decide (x < 0) <;> rfl) (by simp only [List.map_cons, List.map_nil, val_W _ 0 g0]) ?_
    rw [valV_s, val_sgN, g2]
  have k2 : RowGives Try.prog (sigN g) ⟨39, [inN 1], .s (sgN 3 (decide (y < 0)))⟩ := by
    refine row_of (f_signedOf y hy) (by cases decide (y < 0) <;> rfl) (by simp only [List.map_cons, List.map_nil, val_W _ 1 g1]) ?_
    rw [valV_s, val_sgN, g3]
  have k3 : RowGives Try.prog (sigN g) ⟨58, [inN 2, inN 3], .s (inN 4)⟩ := by
    refine ⟨rfl, ?_⟩
    simp only [List.map_cons, List.map_nil, val_inN, valV_s, g2, g3, g4]
    exact hgm
  have k4 : RowGives Try.prog (sigN g) ⟨38, [sgN 4 false, b1 true], .tup [inN 5, i1 e]⟩ := by
    refine row_of hr rfl (by simp only [List.map_cons, List.map_nil, val_sgN, val_b1, g4]) ?_
    rw [valV_tup2, val_W _ 5 g5, val_i1]
  have := run_gives _ _ [] (more_row k1 (more_row k2 (more_row k3 (one_row k4)))) no_test _ 100 (fun σ => Gcd_run σ _ _ e he)
  simp only [List.map_cons, List.map_nil, valV_tup2, val_W _ 0 g0, val_W _ 1 g1, val_W _ 5 g5, val_i1] at this
  exact this
end Go.Proofs.Ytedhjlkidcojhaa
