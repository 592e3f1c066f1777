/-
  A magnitude times a word; the remainder that a line stands for; the greatest common divisor of two words.
-/
import Derived.Test.YtaafimabgcnbaabGreatDoorMQA
import Derived.Test.YtaafimabgcnbaabGreatDoorMQB
import Derived.Test.YtaafimabgcnbaabGreatDoorMRxLL
set_option linter.all false
namespace Go.Proofs.YtaafimabgcnbaabGreatDoor
open Go Go.Rx Go.RowKit Go.Big
/-! ### scaled -/
def sigS (m f x : Nat) (i : Nat) : Int := if i < 8 then (dig m i : Int) else if i < 16 then ((dig m (i - 8) * f % 18446744073709551616 : Nat) : Int) else if i < 24 then ((dig m (i - 16) * f / 18446744073709551616 : Nat) : Int) else if i = 24 then (f : Int) else x
def exE : Nat → Exp
  | 0 => .inp .u64 25
  | i + 1 => .bin .add .u64 (.inp .u64 (16 + i)) (.addC (.inp .u64 (8 + i)) (exE i) (.lit 0))
def scE (i : Nat) : Exp := .addS (.inp .u64 (8 + i)) (exE i) (.lit 0)
def scRow (i : Nat) : Row := ⟨80, [x1 (.inp .u64 i), x1 (.inp .u64 24)], .tup [x1 (.inp .u64 (16 + i)), x1 (.inp .u64 (8 + i))]⟩
def scRows : List Row := [scRow 0, scRow 1, scRow 2, scRow 3, scRow 4, scRow 5, scRow 6, scRow 7]
theorem scaled_run (σ : Nat → Int) : runs σ scRows [] ⟨54, [w8 fun i => .inp .u64 i, x1 (.inp .u64 24), x1 (.inp .u64 25)], .tup [w8 scE, x1 (exE 8)]⟩ 300 = true := by kernel_rfl
theorem word_times {d f e : Nat} (hd : d < 18446744073709551616) (hf : f < 18446744073709551616) (he : e < 18446744073709551616) : d * f + e < 18446744073709551616 * 18446744073709551616 := by
  have := Nat.mul_le_mul (show d ≤ 18446744073709551616 - 1 by omega) (show f ≤ 18446744073709551616 - 1 by omega)
  omega
section
variable {m f x : Nat}
theorem sc_word (i : Nat) (h : i < 8) : (Exp.inp .u64 i).eval (sigS m f x) = dig m i := by
  have := dig_lt m i
  simp only [Exp.eval, wrap_u64, sigS, if_pos h]; omega
theorem sc_low (i : Nat) (h : i < 8) : (Exp.inp .u64 (8 + i)).eval (sigS m f x) = ((dig m i * f % 18446744073709551616 : Nat) : Int) := by
  have := Nat.mod_lt (dig m i * f) (show 0 < 18446744073709551616 by decide)
  simp only [Exp.eval, wrap_u64, sigS, if_neg (show ¬ 8 + i < 8 by omega), if_pos (show 8 + i < 16 by omega), show 8 + i - 8 = i by omega]; omega
theorem sc_high (hf : f < 18446744073709551616) (i : Nat) (h : i < 8) : (Exp.inp .u64 (16 + i)).eval (sigS m f x) = ((dig m i * f / 18446744073709551616 : Nat) : Int) := by
  have h1 := word_times (e := (0)) (dig_lt m i) hf (by decide)
  have h2 : dig m i * f / 18446744073709551616 < 18446744073709551616 := Nat.div_lt_of_lt_mul (by omega)
  simp only [Exp.eval, wrap_u64, sigS, if_neg (show ¬ 16 + i < 8 by omega), if_neg (show ¬ 16 + i < 16 by omega), if_pos (show 16 + i < 24 by omega), show 16 + i - 16 = i by omega]; omega
theorem sc_ex (hf : f < 18446744073709551616) (hx : x < 18446744073709551616) : ∀ i, i ≤ 8 → (exE i).eval (sigS m f x) = ((((m % 2 ^ (64 * i)) * f + x) / 2 ^ (64 * i) : Nat) : Int) ∧ ((m % 2 ^ (64 * i)) * f + x) / 2 ^ (64 * i) < 18446744073709551616
  | 0, _ => by
    have e : (m % 2 ^ (64 * 0) * f + x) / 2 ^ (64 * 0) = x := by rw [Nat.mul_zero, Nat.pow_zero, Nat.mod_one, Nat.zero_mul, Nat.zero_add, Nat.div_one]
    rw [e]
    refine ⟨?_, hx⟩
    simp only [exE, Exp.eval, wrap_u64, sigS]
    simp; omega
  | i + 1, h => by
    obtain ⟨ih1, ih2⟩ := sc_ex hf hx i (by omega)
    have hs := low_step m i
    have e : (m % 2 ^ (64 * (i + 1)) * f + x) / 2 ^ (64 * (i + 1)) = (dig m i * f + (m % 2 ^ (64 * i) * f + x) / 2 ^ (64 * i)) / 18446744073709551616 := by
      rw [hs, show 64 * (i + 1) = 64 * i + 64 by omega, Nat.pow_add, ← Nat.div_div_eq_div_mul, Nat.add_mul, Nat.mul_assoc, Nat.add_assoc, Nat.mul_add_div (Nat.two_pow_pos _), show (2 : Nat) ^ 64 = 18446744073709551616 by decide]
    rw [e]
    have hp := word_times (dig_lt m i) hf ih2
    have hh := sc_high (m := m) (x := x) hf i (by omega)
    have hl := sc_low (m := m) (f := f) (x := x) i (by omega)
    generalize (m % 2 ^ (64 * i) * f + x) / 2 ^ (64 * i) = c at *
    generalize dig m i * f = v at *
    have hb : (v + c) / 18446744073709551616 < 18446744073709551616 := Nat.div_lt_of_lt_mul hp
    refine ⟨?_, hb⟩
    show IntKind.u64.wrap ((Exp.inp .u64 (16 + i)).eval (sigS m f x) + ((Exp.inp .u64 (8 + i)).eval (sigS m f x) + (exE i).eval (sigS m f x) + 0) / 18446744073709551616) = _
    rw [hh, hl, ih1, wrap_u64]
    omega
theorem sc_dig (i : Nat) : dig (m * f + x) i = (dig m i * f + (m % 2 ^ (64 * i) * f + x) / 2 ^ (64 * i)) % 18446744073709551616 := by
  have h1 : (m * f + x) / 2 ^ (64 * i) = m / 2 ^ (64 * i) * f + (m % 2 ^ (64 * i) * f + x) / 2 ^ (64 * i) := by
    conv => lhs; rw [← Nat.div_add_mod m (2 ^ (64 * i))]
    rw [Nat.add_mul, Nat.mul_assoc, Nat.add_assoc, Nat.mul_add_div (Nat.two_pow_pos _)]
  unfold dig
  rw [show (2 : Nat) ^ 64 = 18446744073709551616 by decide] at *
  rw [h1, Nat.add_mod, Nat.mul_mod, Nat.add_mod (m / 2 ^ (64 * i) % 18446744073709551616 * f), Nat.mul_mod (m / 2 ^ (64 * i) % 18446744073709551616) f, Nat.mod_mod]
/-- (magnitude).scaled. -/
theorem f_scaled (hm : m < 13407807929942597099574024998205846127479365820592393377723561443721764030073546976801874298166903427690031858186486050853753882811946569946433649006084096) (hf : f < 18446744073709551616) (hx : x < 18446744073709551616) : Gives Tryz.prog 54 [magV m, .int .u64 f, .int .u64 x] (.tuple #[magV (m * f + x), .int .u64 ((m * f + x) / 13407807929942597099574024998205846127479365820592393377723561443721764030073546976801874298166903427690031858186486050853753882811946569946433649006084096 : Nat)]) := by
  have hr : ∀ i, i < 8 → RowGives Tryz.prog (sigS m f x) (scRow i) := fun i hi => by
    refine ⟨rfl, ?_⟩
    have e24 : (Exp.inp .u64 24).eval (sigS m f x) = (f : Int) := by
      simp only [Exp.eval, wrap_u64, sigS]; simp; omega
    simp only [scRow, List.map_cons, List.map_nil, val_x1, valV_tup2, sc_word i hi, sc_low i hi, sc_high hf i hi, e24]
    have hd := dig_lt m i
    refine gives_of (enters_of Tryz.func80 (by kernel_rfl) rfl) fun w => ?_
    refine (mul64_c (x := (dig m i : Int)) (y := (f : Int)) (by omega) (by omega) w).mono fun e w' he => ?_
    obtain ⟨rfl, rfl⟩ := he
    exact ⟨_, rfl, by rw [Int.natCast_ediv, Int.natCast_emod, Int.natCast_mul]; rfl, Below.refl _ _⟩
  have := run_gives (sigS m f x) scRows [] (more_row (hr 0 (by decide)) (more_row (hr 1 (by decide)) (more_row (hr 2 (by decide)) (more_row (hr 3 (by decide)) (more_row (hr 4 (by decide)) (more_row (hr 5 (by decide)) (more_row (hr 6 (by decide)) (one_row (hr 7 (by decide)))))))))) no_test _ 300 scaled_run
  simp only [List.map_cons, List.map_nil, valV_tup2, val_x1] at this
  rw [val_w8 _ _ m fun i hi => sc_word i hi, val_w8 _ _ (m * f + x) fun i hi => ?_] at this
  · obtain ⟨q1, -⟩ := sc_ex (m := m) hf hx 8 (by decide)
    rw [q1, p2_eight, Nat.mod_eq_of_lt hm] at this
    have e24 : (Exp.inp .u64 24).eval (sigS m f x) = (f : Int) := by
      simp only [Exp.eval, wrap_u64, sigS]; simp; omega
    have e25 : (Exp.inp .u64 25).eval (sigS m f x) = (x : Int) := by
      simp only [Exp.eval, wrap_u64, sigS]; simp; omega
    rw [e24, e25] at this
    exact this
  · obtain ⟨q1, -⟩ := sc_ex (m := m) hf hx i (by omega)
    have hl := sc_low (m := m) (f := f) (x := x) i hi
    rw [sc_dig]
    show ((Exp.inp .u64 (8 + i)).eval (sigS m f x) + (exE i).eval (sigS m f x) + 0) % 18446744073709551616 = _
    rw [hl, q1]
    generalize (m % 2 ^ (64 * i) * f + x) / 2 ^ (64 * i) = c at *
    generalize dig m i * f = v at *
    omega
end
/-! ### The remainder that a line stands for -/
def lnV (f g : Nat) (b : Bool) : Value := .agg #[.int .u64 f, .int .u64 g, .bool b]
def lnN (i j : Nat) (b : Bool) : V1 := .agg [.ex .u64 (.inp .u64 (8 * i + 0)), .ex .u64 (.inp .u64 (8 * j + 0)), .v (.bool b)]
theorem low_inp' {g : Nat → Nat} {k v : Nat} (hg : g k = v) (hv : v < 18446744073709551616) : (Exp.inp .u64 (8 * k + 0)).eval (sigN g) = (v : Int) := by
  have e := inp_sigN g k 0 (by decide)
  rw [hg, (dig_low hv).1] at e
  exact e
theorem val_ln {g : Nat → Nat} {i j u v : Nat} {b : Bool} (hi : g i = u) (hj : g j = v) (hu : u < 18446744073709551616) (hv : v < 18446744073709551616) : val1 (sigN g) (lnN i j b) = lnV u v b := by
  show Value.agg #[.int .u64 ((Exp.inp .u64 (8 * i + 0)).eval (sigN g)), .int .u64 ((Exp.inp .u64 (8 * j + 0)).eval (sigN g)), .bool b] = _
  rw [low_inp' hi hu, low_inp' hj hv]; rfl
def remRows (neg : Bool) : List Row := [⟨54, [inN 0, x1 (.inp .u64 (8 * 5 + 0)), u1 0], .tup [inN 2, x1 (.inp .u64 (8 * 7 + 0))]⟩, ⟨54, [inN 1, x1 (.inp .u64 (8 * 6 + 0)), u1 0], .tup [inN 3, x1 (.inp .u64 (8 * 8 + 0))]⟩, ⟨55, if neg then [inN 3, inN 2] else [inN 2, inN 3], .s (inN 4)⟩]
theorem rem_run (σ : Nat → Int) (neg : Bool) : runs σ (remRows neg) [] ⟨98, [lnN 5 6 neg, inN 0, inN 1], .s (inN 4)⟩ 100 = true := by cases neg <;> kernel_rfl
theorem diff_any {u v r : Nat} (h : u = v + r) : Gives Tryz.prog 55 [magV u, magV v] (magV r) := by
  have := f_diff u (v % 13407807929942597099574024998205846127479365820592393377723561443721764030073546976801874298166903427690031858186486050853753882811946569946433649006084096) (Nat.mod_lt _ (by decide))
  rw [show magV (v % 13407807929942597099574024998205846127479365820592393377723561443721764030073546976801874298166903427690031858186486050853753882811946569946433649006084096) = magV v from magV_congr (Nat.mod_mod _ _)] at this
  rwa [show magV (u + 13407807929942597099574024998205846127479365820592393377723561443721764030073546976801874298166903427690031858186486050853753882811946569946433649006084096 - v % 13407807929942597099574024998205846127479365820592393377723561443721764030073546976801874298166903427690031858186486050853753882811946569946433649006084096) = magV r from magV_congr (by omega)] at this
/-- (line).remainder. -/
theorem f_remainder {m n f g r : Nat} (neg : Bool) (hm : m < 13407807929942597099574024998205846127479365820592393377723561443721764030073546976801874298166903427690031858186486050853753882811946569946433649006084096) (hn : n < 13407807929942597099574024998205846127479365820592393377723561443721764030073546976801874298166903427690031858186486050853753882811946569946433649006084096) (hf : f < 18446744073709551616) (hg : g < 18446744073709551616) (h : if neg = true then n * g = m * f + r else m * f = n * g + r) : Gives Tryz.prog 98 [lnV f g neg, magV m, magV n] (magV r) := by
  have hmf : (m * f + 0) / 13407807929942597099574024998205846127479365820592393377723561443721764030073546976801874298166903427690031858186486050853753882811946569946433649006084096 < 18446744073709551616 := Nat.div_lt_of_lt_mul (by
    have := Nat.mul_le_mul (show m ≤ 13407807929942597099574024998205846127479365820592393377723561443721764030073546976801874298166903427690031858186486050853753882811946569946433649006084096 - 1 by omega) (show f ≤ 18446744073709551616 by omega)
    omega)
  have hng : (n * g + 0) / 13407807929942597099574024998205846127479365820592393377723561443721764030073546976801874298166903427690031858186486050853753882811946569946433649006084096 < 18446744073709551616 := Nat.div_lt_of_lt_mul (by
    have := Nat.mul_le_mul (show n ≤ 13407807929942597099574024998205846127479365820592393377723561443721764030073546976801874298166903427690031858186486050853753882811946569946433649006084096 - 1 by omega) (show g ≤ 18446744073709551616 by omega)
    omega)
  have v0 : lst [m, n, m * f + 0, n * g + 0, r, f, g, (m * f + 0) / 13407807929942597099574024998205846127479365820592393377723561443721764030073546976801874298166903427690031858186486050853753882811946569946433649006084096, (n * g + 0) / 13407807929942597099574024998205846127479365820592393377723561443721764030073546976801874298166903427690031858186486050853753882811946569946433649006084096] 0 = m := rfl
  have v1 : lst [m, n, m * f + 0, n * g + 0, r, f, g, (m * f + 0) / 13407807929942597099574024998205846127479365820592393377723561443721764030073546976801874298166903427690031858186486050853753882811946569946433649006084096, (n * g + 0) / 13407807929942597099574024998205846127479365820592393377723561443721764030073546976801874298166903427690031858186486050853753882811946569946433649006084096] 1 = n := rfl
  have v2 : lst [m, n, m * f + 0, n * g + 0, r, f, g, (m * f + 0) / 13407807929942597099574024998205846127479365820592393377723561443721764030073546976801874298166903427690031858186486050853753882811946569946433649006084096, (n * g + 0) / 13407807929942597099574024998205846127479365820592393377723561443721764030073546976801874298166903427690031858186486050853753882811946569946433649006084096] 2 = m * f + 0 := rfl
  have v3 : lst [m, n, m * f + 0, n * g + 0, r, f, g, (m * f + 0) / 13407807929942597099574024998205846127479365820592393377723561443721764030073546976801874298166903427690031858186486050853753882811946569946433649006084096, (n * g + 0) / 13407807929942597099574024998205846127479365820592393377723561443721764030073546976801874298166903427690031858186486050853753882811946569946433649006084096] 3 = n * g + 0 := rfl
  have v4 : lst [m, n, m * f + 0, n * g + 0, r, f, g, (m * f + 0) / 13407807929942597099574024998205846127479365820592393377723561443721764030073546976801874298166903427690031858186486050853753882811946569946433649006084096, (n * g + 0) / 13407807929942597099574024998205846127479365820592393377723561443721764030073546976801874298166903427690031858186486050853753882811946569946433649006084096] 4 = r := rfl
  have v5 : lst [m, n, m * f + 0, n * g + 0, r, f, g, (m * f + 0) / 13407807929942597099574024998205846127479365820592393377723561443721764030073546976801874298166903427690031858186486050853753882811946569946433649006084096, (n * g + 0) / 13407807929942597099574024998205846127479365820592393377723561443721764030073546976801874298166903427690031858186486050853753882811946569946433649006084096] 5 = f := rfl
  have v6 : lst [m, n, m * f + 0, n * g + 0, r, f, g, (m * f + 0) / 13407807929942597099574024998205846127479365820592393377723561443721764030073546976801874298166903427690031858186486050853753882811946569946433649006084096, (n * g + 0) / 13407807929942597099574024998205846127479365820592393377723561443721764030073546976801874298166903427690031858186486050853753882811946569946433649006084096] 6 = g := rfl
  have v7 : lst [m, n, m * f + 0, n * g + 0, r, f, g, (m * f + 0) / 13407807929942597099574024998205846127479365820592393377723561443721764030073546976801874298166903427690031858186486050853753882811946569946433649006084096, (n * g + 0) / 13407807929942597099574024998205846127479365820592393377723561443721764030073546976801874298166903427690031858186486050853753882811946569946433649006084096] 7 = (m * f + 0) / 13407807929942597099574024998205846127479365820592393377723561443721764030073546976801874298166903427690031858186486050853753882811946569946433649006084096 := rfl
  have v8 : lst [m, n, m * f + 0, n * g + 0, r, f, g, (m * f + 0) / 13407807929942597099574024998205846127479365820592393377723561443721764030073546976801874298166903427690031858186486050853753882811946569946433649006084096, (n * g + 0) / 13407807929942597099574024998205846127479365820592393377723561443721764030073546976801874298166903427690031858186486050853753882811946569946433649006084096] 8 = (n * g + 0) / 13407807929942597099574024998205846127479365820592393377723561443721764030073546976801874298166903427690031858186486050853753882811946569946433649006084096 := rfl
  generalize lst [m, n, m * f + 0, n * g + 0, r, f, g, (m * f + 0) / 13407807929942597099574024998205846127479365820592393377723561443721764030073546976801874298166903427690031858186486050853753882811946569946433649006084096, (n * g + 0) / 13407807929942597099574024998205846127479365820592393377723561443721764030073546976801874298166903427690031858186486050853753882811946569946433649006084096] = G at *
  have k1 : RowGives Tryz.prog (sigN G) ⟨54, [inN 0, x1 (.inp .u64 (8 * 5 + 0)), u1 0], .tup [inN 2, x1 (.inp .u64 (8 * 7 + 0))]⟩ := by
    refine ⟨rfl, ?_⟩
    simp only [List.map_cons, List.map_nil, val_inN, val_x1, val_u1, valV_tup2, v0, v2, low_inp' v5 hf, low_inp' v7 hmf]
    exact f_scaled hm hf (by decide)
  have k2 : RowGives Tryz.prog (sigN G) ⟨54, [inN 1, x1 (.inp .u64 (8 * 6 + 0)), u1 0], .tup [inN 3, x1 (.inp .u64 (8 * 8 + 0))]⟩ := by
    refine ⟨rfl, ?_⟩
    simp only [List.map_cons, List.map_nil, val_inN, val_x1, val_u1, valV_tup2, v1, v3, low_inp' v6 hg, low_inp' v8 hng]
    exact f_scaled hn hg (by decide)
  have k3 : RowGives Tryz.prog (sigN G) ⟨55, if neg then [inN 3, inN 2] else [inN 2, inN 3], .s (inN 4)⟩ := by
    cases neg with
    | true =>
      refine ⟨rfl, ?_⟩
      simp only [if_true, List.map_cons, List.map_nil, val_inN, valV_s, v2, v3, v4]
      exact diff_any h
    | false =>
      refine ⟨rfl, ?_⟩
      simp only [Bool.false_eq_true, if_false, List.map_cons, List.map_nil, val_inN, valV_s, v2, v3, v4]
      exact diff_any h
  have := run_gives (sigN G) (remRows neg) [] (more_row k1 (more_row k2 (one_row k3))) no_test _ 100 (fun σ => rem_run σ neg)
  simp only [List.map_cons, List.map_nil, val_inN, valV_s, val_ln v5 v6 hf hg, v0, v1, v4] at this
  exact this
noncomputable def b94 : Code := Tryz.f74.body.getD .skip
noncomputable def b94a : Code := c1 b94
noncomputable def b94d : Code := c1 (c1 (c1 (c2 b94)))
noncomputable def b94e : Code := c2 (c2 b94)
theorem b94_eq : Tryz.f74.body = some (.seq b94a (.seq (.block 0 (.loop b94d)) b94e)) := by kernel_rfl
def wdE (k : Nat) : Exp := .inp .u64 (8 * k + 0)
def vsW : List (Nat × V) := [(0, .s (x1 (wdE 0))), (1, .s (x1 (wdE 1)))]
theorem wd_a (σ : Nat → Int) (o : Nat → V) : fragX (envS σ [] []) 100 b94a 12 [] vsW o .normal [] vsW = true := by kernel_rfl
theorem wd_d (σ : Nat → Int) (o : Nat → V) : fragX (envS σ [] [⟨.neq, wdE 1, .lit 0, true⟩]) 100 b94d 12 [] vsW o .normal [] [(0, .s (x1 (wdE 1))), (1, .s (x1 (.bin .rem .u64 (wdE 0) (wdE 1))))] = true := by kernel_rfl
theorem wd_o (σ : Nat → Int) (o : Nat → V) : fragX (envS σ [] [⟨.neq, wdE 1, .lit 0, false⟩]) 100 b94d 12 [] vsW o (.exit 0) [] vsW = true := by kernel_rfl
theorem wd_e (σ : Nat → Int) (o : Nat → V) : fragE (envS σ [] []) 100 b94e Tryz.f74 [] vsW o (.s (x1 (wdE 0))) = true := by kernel_rfl
theorem one_test {σ : Nat → Int} {t : Test} (h : TestOk σ t) : ∀ q ∈ [t], TestOk σ q := fun q hq => by
  simp only [List.mem_cons, List.not_mem_nil, or_false] at hq; subst hq; exact h
def wdI (W : World) (G : Nat) (p : Nat × Nat) (a : Act) (w : World) : Prop := (p.1 < 18446744073709551616 ∧ p.2 < 18446744073709551616 ∧ Nat.gcd p.1 p.2 = G) ∧ LInv W 12 (sigN (lst [p.1, p.2])) [] vsW a w
/-- wordDivisor. -/
theorem f_wordGcd {x y : Nat} (hx : x < 18446744073709551616) (hy : y < 18446744073709551616) : Gives Tryz.prog 74 [.int .u64 x, .int .u64 y] (.int .u64 (Nat.gcd x y)) := by
  refine gives_of (enters_of Tryz.func74 (by kernel_rfl) rfl) fun w => ?_
  have key : ∀ (a : Act) (w' : World), LInv w 12 (sigN (lst [x, y])) [] vsW a w' → (Code.seq b94a (.seq (.block 0 (.loop b94d)) b94e)).wp Tryz.prog (bodyPost Tryz.prog Tryz.f74 (@Gets (fun _ r' => r' = .int .u64 (Nat.gcd x y)) w)) a w' := by
    intro a w' hI
    refine wp_seq (frag (E := envS (sigN (lst [x, y])) [] []) (envS_ok no_row no_test w) (wd_a _) hI fun a w' hI => ?_)
    refine wp_seq (wp_block (loop_ind (wdI w (Nat.gcd x y)) (fun p => p.2) ?_ (x := (x, y)) ⟨⟨hx, hy, rfl⟩, hI⟩))
    clear hI
    rintro ⟨a0, b0⟩ a w' ⟨⟨h1, h2, h3⟩, hI⟩
    simp only at h1 h2 h3 hI
    have e0 := low_inp' (g := lst [a0, b0]) (k := 0) rfl h1
    have e1 := low_inp' (g := lst [a0, b0]) (k := 1) rfl h2
    by_cases h0 : b0 = 0
    · subst h0
      have ht : TestOk (sigN (lst [a0, 0])) ⟨.neq, wdE 1, .lit 0, false⟩ := fun k => by
        show some (Value.bool ((wdE 1).eval (sigN (lst [a0, 0])) != 0)) = _
        rw [show (wdE 1).eval (sigN (lst [a0, 0])) = ((0 : Nat) : Int) from e1]; rfl
      refine frag (E := envS (sigN (lst [a0, 0])) [] _) (envS_ok no_row (one_test ht) w) (wd_o _) hI fun a w' hI => ?_
      simp only [exOf, Exit.then, Exit.inBlock, if_true]
      refine frag_end (E := envS (sigN (lst [a0, 0])) [] []) (envS_ok no_row no_test w) (fn := Tryz.f74) (wd_e _) hI (R := @Gets (fun _ r' => r' = .int .u64 (Nat.gcd x y)) w) (fun w' hb => ⟨_, rfl, ?_, hb⟩) (fun a w h => h)
      show Value.int .u64 ((wdE 0).eval (sigN (lst [a0, 0]))) = _
      rw [show (wdE 0).eval (sigN (lst [a0, 0])) = (a0 : Int) from e0, ← h3, Nat.gcd_zero_right]
    · have ht : TestOk (sigN (lst [a0, b0])) ⟨.neq, wdE 1, .lit 0, true⟩ := fun k => by
        show some (Value.bool ((wdE 1).eval (sigN (lst [a0, b0])) != 0)) = _
        rw [show (wdE 1).eval (sigN (lst [a0, b0])) = (b0 : Int) from e1]
        congr 2
        rw [bne_iff_ne]; omega
      refine frag (E := envS (sigN (lst [a0, b0])) [] _) (envS_ok no_row (one_test ht) w) (wd_d _) hI fun a w' hI => ?_
      have hm := Nat.mod_lt a0 (show 0 < b0 by omega)
      refine ⟨(b0, a0 % b0), ⟨⟨h2, by show a0 % b0 < 18446744073709551616; omega, ?_⟩, ?_⟩, hm⟩
      · show Nat.gcd b0 (a0 % b0) = _
        rw [← h3, Nat.gcd_comm b0, ← Nat.gcd_rec, Nat.gcd_comm]
      · refine hI.turn .nil (fun p hp => ?_)
        simp only [vsW, List.mem_cons, List.not_mem_nil, or_false] at hp
        rcases hp with rfl | rfl
        · refine ⟨(0, .s (x1 (wdE 1))), by simp, rfl, ?_⟩
          show Value.int .u64 ((wdE 0).eval (sigN (lst [b0, a0 % b0]))) = Value.int .u64 ((wdE 1).eval (sigN (lst [a0, b0])))
          rw [show (wdE 1).eval (sigN (lst [a0, b0])) = (b0 : Int) from e1, show (wdE 0).eval (sigN (lst [b0, a0 % b0])) = (b0 : Int) from low_inp' rfl h2]
        · refine ⟨(1, .s (x1 (.bin .rem .u64 (wdE 0) (wdE 1)))), by simp, rfl, ?_⟩
          show Value.int .u64 ((wdE 1).eval (sigN (lst [b0, a0 % b0]))) = Value.int .u64 ((Exp.bin .rem .u64 (wdE 0) (wdE 1)).eval (sigN (lst [a0, b0])))
          have e2 : (Exp.bin .rem .u64 (wdE 0) (wdE 1)).eval (sigN (lst [a0, b0])) = ((a0 % b0 : Nat) : Int) := by
            show numOf (intBin .rem .u64 ((wdE 0).eval (sigN (lst [a0, b0]))) ((wdE 1).eval (sigN (lst [a0, b0])))) = _
            rw [show (wdE 0).eval (sigN (lst [a0, b0])) = (a0 : Int) from e0, show (wdE 1).eval (sigN (lst [a0, b0])) = (b0 : Int) from e1]
            unfold intBin
            simp only []
            rw [if_neg (by omega)]
            show Int.tmod (a0 : Int) (b0 : Int) = _
            rw [Int.tmod_eq_emod_of_nonneg (by omega)]; rfl
          rw [e2, show (wdE 1).eval (sigN (lst [b0, a0 % b0])) = ((a0 % b0 : Nat) : Int) from low_inp' rfl (by omega)]
  have e0 := low_inp' (g := lst [x, y]) (k := 0) rfl hx
  have e1 := low_inp' (g := lst [x, y]) (k := 1) rfl hy
  have := enter_inv (P := Tryz.prog) (f := 74) (fn := Tryz.f74) Tryz.func74 b94_eq (l := [x1 (wdE 0), x1 (wdE 1)]) (by kernel_rfl) (sigN (lst [x, y])) (w := w) (R := @Gets (fun _ r' => r' = .int .u64 (Nat.gcd x y)) w) (fun a hI => key a w hI)
  rwa [show [x1 (wdE 0), x1 (wdE 1)].map (val1 (sigN (lst [x, y]))) = [.int .u64 (x : Int), .int .u64 (y : Int)] by
    show [Value.int .u64 ((wdE 0).eval (sigN (lst [x, y]))), Value.int .u64 ((wdE 1).eval (sigN (lst [x, y])))] = _
    rw [show (wdE 0).eval (sigN (lst [x, y])) = (x : Int) from e0, show (wdE 1).eval (sigN (lst [x, y])) = (y : Int) from e1]] at this
end Go.Proofs.YtaafimabgcnbaabGreatDoor
