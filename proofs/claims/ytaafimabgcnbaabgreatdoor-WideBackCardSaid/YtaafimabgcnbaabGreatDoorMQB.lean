/-
  The root of a magnitude, by Newton's way; wide.Root for every wide integer.
-/
import Derived.Test.YtaafimabgcnbaabGreatDoorMQA
set_option linter.all false
namespace Go.Proofs.YtaafimabgcnbaabGreatDoor
open Go Go.Rx Go.RowKit Go.Big
/-! ### Whole roots -/
theorem isq_ex : ∀ m : Nat, ∃ r, r * r ≤ m ∧ m < (r + 1) * (r + 1)
  | 0 => ⟨0, by decide, by decide⟩
  | m + 1 => by
    obtain ⟨r, h1, h2⟩ := isq_ex m
    by_cases h : (r + 1) * (r + 1) ≤ m + 1
    · refine ⟨r + 1, h, ?_⟩
      have e : (r + 1 + 1) * (r + 1 + 1) = (r + 1) * (r + 1) + 2 * r + 3 := by simp only [Nat.mul_add, Nat.add_mul]; omega
      rw [e]; omega
    · exact ⟨r, by omega, by omega⟩
theorem isq_le {m r s : Nat} (h1 : s * s ≤ m) (h2 : m < (r + 1) * (r + 1)) : s ≤ r := by
  rcases Nat.lt_or_ge r s with h | h
  · exfalso
    have := Nat.mul_le_mul (show r + 1 ≤ s by omega) (show r + 1 ≤ s by omega)
    omega
  · exact h
theorem newton_up {m r x : Nat} (h1 : r * r ≤ m) (hx : 0 < x) (hr : r ≤ x) : r ≤ (x + m / x) / 2 := by
  have h : 2 * r ≤ x + m / x := by
    rcases Nat.lt_or_ge x (2 * r) with h | h
    · obtain ⟨e, rfl⟩ := Nat.exists_eq_add_of_le hr
      obtain ⟨f, rfl⟩ : ∃ f, r = e + f := ⟨r - e, by omega⟩
      have : f ≤ m / (e + f + e) := by
        rw [Nat.le_div_iff_mul_le hx]
        refine Nat.le_trans ?_ h1
        simp only [Nat.mul_add, Nat.add_mul, Nat.mul_comm f e]
        have := Nat.zero_le (e * e)
        omega
      omega
    · exact Nat.le_trans h (Nat.le_add_right _ _)
  omega
theorem newton_end {m r x : Nat} (h2 : m < (r + 1) * (r + 1)) (hx : 0 < x) (hr : r ≤ x) (h : x ≤ (x + m / x) / 2) : x = r := by
  have h3 : x ≤ m / x := by omega
  rw [Nat.le_div_iff_mul_le hx] at h3
  have := isq_le h3 h2
  omega
theorem newton_fits {m r x : Nat} (hm : m < 13407807929942597099574024998205846127479365820592393377723561443721764030073546976801874298166903427690031858186486050853753882811946569946433649006084096) (h2 : m < (r + 1) * (r + 1)) (hr1 : 1 ≤ r) (hr : r ≤ x) (hx : x ≤ 115792089237316195423570985008687907853269984665640564039457584007913129639936) : x + m / x < 13407807929942597099574024998205846127479365820592393377723561443721764030073546976801874298166903427690031858186486050853753882811946569946433649006084096 := by
  by_cases h1 : x = 1
  · subst h1
    have : r = 1 := by omega
    subst this
    omega
  · have := Nat.div_le_div_left (show 2 ≤ x by omega) (show 0 < 2 by decide) (a := m)
    omega
theorem p256 : (2 : Nat) ^ 256 = 115792089237316195423570985008687907853269984665640564039457584007913129639936 := by decide
theorem root_first {m r k : Nat} (hk : k ≤ 512) (hb : hasBits m k) (h1 : r * r ≤ m) : r ≤ 2 ^ ((k + 1) / 2) ∧ 0 < 2 ^ ((k + 1) / 2) ∧ 2 ^ ((k + 1) / 2) ≤ 115792089237316195423570985008687907853269984665640564039457584007913129639936 := by
  refine ⟨?_, Nat.two_pow_pos _, ?_⟩
  · rcases Nat.lt_or_ge (2 ^ ((k + 1) / 2)) r with h | h
    · exfalso
      have h3 := Nat.mul_le_mul (Nat.le_of_lt h) (Nat.le_of_lt h)
      rw [← Nat.pow_add] at h3
      have h4 : 2 ^ k ≤ 2 ^ ((k + 1) / 2 + (k + 1) / 2) := Nat.pow_le_pow_right (by decide) (by omega)
      have := hb.2.2
      omega
    · exact h
  · rw [← p256]; exact Nat.pow_le_pow_right (by decide) (by omega)
/-! ### The code, in its pieces -/
def c1 : Code → Code
  | .seq a _ => a
  | .block _ c => c
  | .loop c => c
  | c => c
def c2 : Code → Code
  | .seq _ b => b
  | c => c
noncomputable def b53 : Code := Tryz.f52.body.getD .skip
noncomputable def b53a : Code := c1 b53
noncomputable def b53b : Code := c1 (c2 b53)
noncomputable def b53c : Code := c1 (c2 (c2 b53))
noncomputable def b53d : Code := c1 (c1 (c2 (c2 (c2 b53))))
theorem b53_eq : Tryz.f52.body = some (.seq b53a (.seq b53b (.seq b53c (.block 0 (.loop b53d))))) := by kernel_rfl
theorem cells_val (g : Nat → Nat) (k : Nat) : (inN k).cells.map (valC (sigN g)) = (magV (g k)).cells.toList := by
  have h : Value.agg ((inN k).cells.map (valC (sigN g))).toArray = magV (g k) := val_inN g k
  rw [← h]
  simp [Value.cells]
theorem cells_z8 (σ : Nat → Int) : z8.cells.map (valC σ) = (magV 0).cells.toList := by kernel_rfl
def bxR (l : List C) : List BoxD := [⟨1, (inN 0).cells, 59⟩, ⟨2, z8.cells, 59⟩, ⟨3, l, 59⟩]
theorem root_a (σ : Nat → Int) (o : Nat → V) : fragX (envS σ [] []) 100 b53a 38 [] [(0, .s (inN 0))] o .normal [⟨1, (inN 0).cells, 59⟩, ⟨2, z8.cells, 59⟩] [] = true := by kernel_rfl
theorem root_b (σ : Nat → Int) (o : Nat → V) : fragX (envS σ [⟨58, [inN 0], .s (b1 false)⟩] []) 100 b53b 38 [⟨1, (inN 0).cells, 59⟩, ⟨2, z8.cells, 59⟩] [] o .normal [⟨1, (inN 0).cells, 59⟩, ⟨2, z8.cells, 59⟩] [] = true := by kernel_rfl
def halfE : Exp := .bin .quo .i64 (.bin .add .i64 (.inp .u64 (8 * 2 + 0)) (.lit 1)) (.lit 2)
def rowsC : List Row := [⟨77, [inN 0], .s (.one (.ex .i64 (.inp .u64 (8 * 2 + 0))))⟩, ⟨76, [mag 1, .one (.ex .i64 halfE)], .s (inN 1)⟩]
theorem root_c (σ : Nat → Int) (o : Nat → V) : fragX (envS σ rowsC []) 100 b53c 38 [⟨1, (inN 0).cells, 59⟩, ⟨2, z8.cells, 59⟩] [] o .normal (bxR (inN 1).cells) [] = true := by kernel_rfl
def rowsD (r : Int) : List Row := [⟨70, [inN 0, inN 1], .tup [inN 2, inN 3]⟩, ⟨71, [inN 1, inN 2], .tup [inN 4, b1 true]⟩, ⟨78, [inN 4, i1 1], .s (inN 5)⟩, ⟨43, [inN 5, inN 1], .s (i1 r)⟩]
theorem root_d (σ : Nat → Int) (o : Nat → V) : fragX (envS σ (rowsD (-1)) []) 100 b53d 38 (bxR (inN 1).cells) [] o .normal (bxR (inN 5).cells) [] = true := by kernel_rfl
theorem root_e (σ : Nat → Int) (r : Int) (h : r = 0 ∨ r = 1) (o : Nat → V) : fragE (envS σ (rowsD r) []) 100 b53d Tryz.f52 (bxR (inN 1).cells) [] o (.s (inN 1)) = true := by
  rcases h with rfl | rfl <;> kernel_rfl
theorem root_z (σ : Nat → Int) : runs σ [⟨58, [inN 0], .s (b1 true)⟩] [] ⟨52, [inN 0], .s (inN 0)⟩ 100 = true := by kernel_rfl
/-- What the head of the loop knows. -/
def rootI (W : World) (m r x : Nat) (a : Act) (w : World) : Prop := (r ≤ x ∧ 0 < x ∧ x ≤ 115792089237316195423570985008687907853269984665640564039457584007913129639936) ∧ LInv W 38 (sigN (lst [m, x])) (bxR (inN 1).cells) [] a w
theorem bxR_turn {W : World} {g g' : Nat → Nat} {i j : Nat} {a : Act} {w : World} (h : LInv W 38 (sigN g) (bxR (inN i).cells) [] a w) (h0 : g' 0 = g 0) (h1 : g' j = g i) : LInv W 38 (sigN g') (bxR (inN j).cells) [] a w :=
  h.turn (.cons ⟨rfl, rfl, by rw [cells_val, cells_val, h0]⟩ (.cons ⟨rfl, rfl, by rw [cells_z8, cells_z8]⟩ (.cons ⟨rfl, rfl, by rw [cells_val, cells_val, h1]⟩ .nil))) (fun p hp => by cases hp)
/-- (magnitude).root. -/
theorem f_root {m r : Nat} (hm : m < 13407807929942597099574024998205846127479365820592393377723561443721764030073546976801874298166903427690031858186486050853753882811946569946433649006084096) (h1 : r * r ≤ m) (h2 : m < (r + 1) * (r + 1)) : Gives Tryz.prog 52 [magV m] (magV r) := by
  by_cases h0 : m = 0
  · subst h0
    have hr : r = 0 := by
      rcases Nat.eq_zero_or_pos r with h | h
      · exact h
      · exfalso
        have := Nat.mul_le_mul h h
        omega
    subst hr
    have k1 : RowGives Tryz.prog (sigN (lst [0])) ⟨58, [inN 0], .s (b1 true)⟩ := by
      refine ⟨rfl, ?_⟩
      simp only [List.map_cons, List.map_nil, val_inN, valV_s, val_b1]
      exact f_isZero 0 hm
    have := run_gives _ _ [] (one_row k1) no_test _ 100 root_z
    simp only [List.map_cons, List.map_nil, val_inN, valV_s] at this
    exact this
  · have hr1 : 1 ≤ r := by
      rcases Nat.eq_zero_or_pos r with h | h
      · subst h; omega
      · exact h
    obtain ⟨k, hk, hb, hbits⟩ := f_bits m hm h0
    obtain ⟨f1, f2, f3⟩ := root_first hk hb h1
    refine gives_of (enters_of Tryz.func52 (by kernel_rfl) rfl) fun w => ?_
    have key : ∀ (g : Nat → Nat) (a : Act) (w' : World), g 0 = m → g 1 = 2 ^ ((k + 1) / 2) → g 2 = k → LInv w 38 (sigN g) [] [(0, .s (inN 0))] a w' → (Code.seq b53a (.seq b53b (.seq b53c (.block 0 (.loop b53d))))).wp Tryz.prog (bodyPost Tryz.prog Tryz.f52 (@Gets (fun _ r' => r' = magV r) w)) a w' := by
      intro g a w' g0 g1 g2 hI
      refine wp_seq (frag (E := envS (sigN g) [] []) (envS_ok no_row no_test w) (root_a _) hI fun a w' hI => ?_)
      have k1 : RowGives Tryz.prog (sigN g) ⟨58, [inN 0], .s (b1 false)⟩ := by
        refine ⟨rfl, ?_⟩
        simp only [List.map_cons, List.map_nil, val_inN, valV_s, val_b1, g0]
        have := f_isZero m hm
        rwa [decide_eq_false h0] at this
      refine wp_seq (frag (E := envS (sigN g) _ []) (envS_ok (one_row k1) no_test w) (root_b _) hI fun a w' hI => ?_)
      have e2 : (Exp.inp .u64 (8 * 2 + 0)).eval (sigN g) = (k : Int) := by
        have e := inp_sigN g 2 0 (by decide)
        rw [g2, (dig_low (show k < 18446744073709551616 by omega)).1] at e
        exact e
      have eh : halfE.eval (sigN g) = (((k + 1) / 2 : Nat) : Int) := by
        show IntKind.i64.wrap (Int.tdiv (IntKind.i64.wrap ((Exp.inp .u64 (8 * 2 + 0)).eval (sigN g) + 1)) 2) = _
        rw [e2, wrap_i64 ((k : Int) + 1) (by omega), Int.tdiv_eq_ediv_of_nonneg (by omega), wrap_i64 _ (by omega)]
        omega
      have k2 : RowGives Tryz.prog (sigN g) ⟨77, [inN 0], .s (.one (.ex .i64 (.inp .u64 (8 * 2 + 0))))⟩ := by
        refine ⟨rfl, ?_⟩
        simp only [List.map_cons, List.map_nil, val_inN, valV_s, g0]
        show Gives Tryz.prog 77 [magV m] (.int .i64 ((Exp.inp .u64 (8 * 2 + 0)).eval (sigN g)))
        rw [e2]; exact hbits
      have k3 : RowGives Tryz.prog (sigN g) ⟨76, [mag 1, .one (.ex .i64 halfE)], .s (inN 1)⟩ := by
        refine ⟨rfl, ?_⟩
        simp only [List.map_cons, List.map_nil, val_inN, valV_s, g1, val_mag]
        show Gives Tryz.prog 76 [magV 1, .int .i64 (halfE.eval (sigN g))] _
        rw [eh]
        have := f_left 1 ((k + 1) / 2) (by omega) (by rw [Nat.one_mul]; omega)
        rwa [Nat.one_mul] at this
      refine wp_seq (frag (E := envS (sigN g) _ []) (envS_ok (more_row k2 (one_row k3)) no_test w) (root_c _) hI fun a w' hI => ?_)
      refine wp_block (loop_ind (rootI w m r) (fun x => x) ?_ (x := 2 ^ ((k + 1) / 2)) ⟨⟨f1, f2, f3⟩, bxR_turn hI g0.symm g1.symm⟩)
      clear hI k1 k2 k3 e2 eh
      rintro x a w' ⟨⟨x1, x2, x3⟩, hI⟩
      have hf := newton_fits hm h2 hr1 x1 x3
      have hup := newton_up h1 x2 x1
      have hI := bxR_turn (g' := lst [m, x, m / x, m % x, x + m / x, (x + m / x) / 2]) (j := 1) hI rfl rfl
      have q0 : lst [m, x, m / x, m % x, x + m / x, (x + m / x) / 2] 0 = m := rfl
      have q1 : lst [m, x, m / x, m % x, x + m / x, (x + m / x) / 2] 1 = x := rfl
      have q2 : lst [m, x, m / x, m % x, x + m / x, (x + m / x) / 2] 2 = m / x := rfl
      have q3 : lst [m, x, m / x, m % x, x + m / x, (x + m / x) / 2] 3 = m % x := rfl
      have q4 : lst [m, x, m / x, m % x, x + m / x, (x + m / x) / 2] 4 = x + m / x := rfl
      have q5 : lst [m, x, m / x, m % x, x + m / x, (x + m / x) / 2] 5 = (x + m / x) / 2 := rfl
      generalize lst [m, x, m / x, m % x, x + m / x, (x + m / x) / 2] = g at *
      have xl : x < 13407807929942597099574024998205846127479365820592393377723561443721764030073546976801874298166903427690031858186486050853753882811946569946433649006084096 := by omega
      have ql : m / x < 13407807929942597099574024998205846127479365820592393377723561443721764030073546976801874298166903427690031858186486050853753882811946569946433649006084096 := by omega
      have sl : (x + m / x) / 2 < 13407807929942597099574024998205846127479365820592393377723561443721764030073546976801874298166903427690031858186486050853753882811946569946433649006084096 := by omega
      have r1 : RowGives Tryz.prog (sigN g) ⟨70, [inN 0, inN 1], .tup [inN 2, inN 3]⟩ := by
        refine ⟨rfl, ?_⟩
        simp only [List.map_cons, List.map_nil, val_inN, valV_tup2, q0, q1, q2, q3]
        exact f_divideG m x hm ⟨x2, xl⟩
      have r2 : RowGives Tryz.prog (sigN g) ⟨71, [inN 1, inN 2], .tup [inN 4, b1 true]⟩ := by
        refine ⟨rfl, ?_⟩
        simp only [List.map_cons, List.map_nil, val_inN, valV_tup2, q1, q2, q4, val_b1]
        have := f_sum x (m / x) xl ql
        rwa [decide_eq_true hf] at this
      have r3 : RowGives Tryz.prog (sigN g) ⟨78, [inN 4, i1 1], .s (inN 5)⟩ := by
        refine ⟨rfl, ?_⟩
        simp only [List.map_cons, List.map_nil, val_inN, valV_s, q4, q5, val_i1]
        exact f_right (x + m / x) 1 (by decide) hf
      have r4 : ∀ q, cmpI ((x + m / x) / 2 : Nat) x = q → RowGives Tryz.prog (sigN g) ⟨43, [inN 5, inN 1], .s (i1 q)⟩ := fun q hq => by
        refine ⟨rfl, ?_⟩
        simp only [List.map_cons, List.map_nil, val_inN, valV_s, q1, q5, val_i1]
        rw [← hq]
        exact f_compare _ _ sl xl
      rcases Nat.lt_or_ge ((x + m / x) / 2) x with hlt | hge
      · have hc : cmpI ((x + m / x) / 2 : Nat) x = -1 := by unfold cmpI; rw [if_pos (by omega)]
        refine frag (E := envS (sigN g) (rowsD (-1)) []) (envS_ok (more_row r1 (more_row r2 (more_row r3 (one_row (r4 _ hc))))) no_test w) (root_d _) hI fun a w' hI => ?_
        exact ⟨(x + m / x) / 2, ⟨⟨hup, by omega, by omega⟩, bxR_turn hI (by rw [q0]; rfl) (by rw [q5]; rfl)⟩, hlt⟩
      · have hx := newton_end h2 x2 x1 hge
        have hc : cmpI ((x + m / x) / 2 : Nat) x = 0 ∨ cmpI ((x + m / x) / 2 : Nat) x = 1 := by
          unfold cmpI
          rw [if_neg (by omega)]
          split
          · exact .inr rfl
          · exact .inl rfl
        refine frag_end (E := envS (sigN g) (rowsD _) []) (envS_ok (more_row r1 (more_row r2 (more_row r3 (one_row (r4 _ rfl))))) no_test w) (fn := Tryz.f52) (root_e _ _ hc) hI (R := @Gets (fun _ r' => r' = magV r) w) (fun w' hb => ⟨_, rfl, ?_, hb⟩) (fun a w h => h)
        show valV (sigN g) (.s (inN 1)) = magV r
        rw [valV_s, val_inN, q1, hx]
    have := enter_inv (P := Tryz.prog) (f := 52) (fn := Tryz.f52) Tryz.func52 b53_eq (l := [inN 0]) (by kernel_rfl) (sigN (lst [m, 2 ^ ((k + 1) / 2), k])) (w := w) (R := @Gets (fun _ r' => r' = magV r) w) (fun a hI => key _ a w rfl rfl rfl hI)
    rwa [show [inN 0].map (val1 (sigN (lst [m, 2 ^ ((k + 1) / 2), k]))) = [magV m] by simp only [List.map_cons, List.map_nil, val_inN]; rfl] at this
end Go.Proofs.YtaafimabgcnbaabGreatDoor
