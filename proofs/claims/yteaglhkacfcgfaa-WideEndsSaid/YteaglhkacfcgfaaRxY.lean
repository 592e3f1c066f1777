/-
  Contracts of package wide, for every value: sums and differences of integers.
-/
import Derived.Test.YteaglhkacfcgfaaRxX
namespace Go.Proofs.Yteaglhkacfcgfaa
open Go Go.Rx Go.RowKit

def lst (l : List Nat) (i : Nat) : Nat := l.getD i 0
theorem valV_tup2 (σ : Nat → Int) (a b : V1) : valV σ (.tup [a, b]) = .tuple #[val1 σ a, val1 σ b] := rfl
theorem valV_s (σ : Nat → Int) (a : V1) : valV σ (.s a) = val1 σ a := rfl

theorem plus_same (σ : Nat → Int) (b f : Bool) : runs σ [⟨86, [inN 0, inN 1], .tup [inN 2, b1 f]⟩] [] ⟨89, [sgN 0 b, sgN 1 b], .tup [sgN 2 b, b1 f]⟩ 100 = true := by
  cases b <;> cases f <;> kernel_rfl
theorem plus_less (σ : Nat → Int) (b : Bool) : runs σ [⟨48, [inN 0, inN 1], .s (i1 (-1))⟩, ⟨78, [inN 1, inN 0], .s (inN 2)⟩] [] ⟨89, [sgN 0 (!b), sgN 1 b], .tup [sgN 2 b, b1 true]⟩ 100 = true := by
  cases b <;> kernel_rfl
theorem plus_more (σ : Nat → Int) (b : Bool) (r : Int) (h : r = 0 ∨ r = 1) : runs σ [⟨48, [inN 0, inN 1], .s (i1 r)⟩, ⟨78, [inN 0, inN 1], .s (inN 2)⟩] [] ⟨89, [sgN 0 b, sgN 1 (!b)], .tup [sgN 2 b, b1 true]⟩ 100 = true := by
  rcases h with rfl | rfl <;> cases b <;> kernel_rfl
theorem f_sub (m n : Nat) (hn : n < 13407807929942597099574024998205846127479365820592393377723561443721764030073546976801874298166903427690031858186486050853753882811946569946433649006084096) (h : n ≤ m) : Gives Try.prog 78 [magV m, magV n] (magV (m - n)) := by
  have := f_diff m n hn
  rwa [show m + 13407807929942597099574024998205846127479365820592393377723561443721764030073546976801874298166903427690031858186486050853753882811946569946433649006084096 - n = (m - n) + 13407807929942597099574024998205846127479365820592393377723561443721764030073546976801874298166903427690031858186486050853753882811946569946433649006084096 by omega, magV_congr (Nat.add_mod_right (m - n) (13407807929942597099574024998205846127479365820592393377723561443721764030073546976801874298166903427690031858186486050853753882811946569946433649006084096))] at this
/-- What plus hands back. -/
structure Sgd where
  n : Nat
  b : Bool
  f : Bool
def Sgd.V (s : Sgd) : Value := .tuple #[sgV s.n s.b, .bool s.f]
def plusR (m : Nat) (b : Bool) (n : Nat) (c : Bool) : Sgd :=
  if b = c then ⟨(m + n) % 13407807929942597099574024998205846127479365820592393377723561443721764030073546976801874298166903427690031858186486050853753882811946569946433649006084096, b, decide (m + n < 13407807929942597099574024998205846127479365820592393377723561443721764030073546976801874298166903427690031858186486050853753882811946569946433649006084096)⟩ else if m < n then ⟨n - m, c, true⟩ else ⟨m - n, b, true⟩
theorem sgV_mod (n : Nat) (b : Bool) : sgV (n % 13407807929942597099574024998205846127479365820592393377723561443721764030073546976801874298166903427690031858186486050853753882811946569946433649006084096) b = sgV n b := by
  simp only [sgV, dig_mod n _ (show 0 < 8 by decide), dig_mod n _ (show 1 < 8 by decide), dig_mod n _ (show 2 < 8 by decide), dig_mod n _ (show 3 < 8 by decide), dig_mod n _ (show 4 < 8 by decide), dig_mod n _ (show 5 < 8 by decide), dig_mod n _ (show 6 < 8 by decide), dig_mod n _ (show 7 < 8 by decide)]
/-- (signed).plus. -/
theorem f_plus (m n : Nat) (b c : Bool) (hm : m < 13407807929942597099574024998205846127479365820592393377723561443721764030073546976801874298166903427690031858186486050853753882811946569946433649006084096) (hn : n < 13407807929942597099574024998205846127479365820592393377723561443721764030073546976801874298166903427690031858186486050853753882811946569946433649006084096) : Gives Try.prog 89 [sgV m b, sgV n c] (plusR m b n c).V := by
  by_cases hbc : b = c
  · subst hbc
    have r1 : RowGives Try.prog (sigN (lst [m, n, m + n])) ⟨86, [inN 0, inN 1], .tup [inN 2, b1 (decide (m + n < 13407807929942597099574024998205846127479365820592393377723561443721764030073546976801874298166903427690031858186486050853753882811946569946433649006084096))]⟩ := by
      refine ⟨rfl, ?_⟩
      simp only [List.map_cons, List.map_nil, val_inN, valV_tup2, val_b1]
      exact f_sum m n hm hn
    have := run_gives _ _ [] (one_row r1) no_test ⟨89, [sgN 0 b, sgN 1 b], _⟩ 100 (fun σ => plus_same σ b _)
    simp only [List.map_cons, List.map_nil, val_sgN, valV_tup2, val_b1] at this
    unfold plusR Sgd.V
    rw [if_pos rfl]
    simp only
    rw [sgV_mod]
    exact this
  · have hc : c = !b := by cases b <;> cases c <;> simp_all
    have r1 : ∀ k r, cmpI m n = r → RowGives Try.prog (sigN (lst [m, n, k])) ⟨48, [inN 0, inN 1], .s (i1 r)⟩ := fun k r h => by
      refine ⟨rfl, ?_⟩
      simp only [List.map_cons, List.map_nil, val_inN]
      rw [← h]
      exact f_compare m n hm hn
    unfold plusR
    rw [if_neg hbc]
    by_cases hlt : m < n
    · rw [if_pos hlt]
      have hr : cmpI m n = -1 := by unfold cmpI; rw [if_pos (by omega)]
      have r2 : RowGives Try.prog (sigN (lst [m, n, n - m])) ⟨78, [inN 1, inN 0], .s (inN 2)⟩ := by
        refine ⟨rfl, ?_⟩
        simp only [List.map_cons, List.map_nil, val_inN, valV_s]
        exact f_sub n m hm (by omega)
      have := run_gives _ _ [] (more_row (r1 _ _ hr) (one_row r2)) no_test ⟨89, [sgN 0 (!c), sgN 1 c], _⟩ 100 (fun σ => plus_less σ c)
      simp only [List.map_cons, List.map_nil, val_sgN, valV_tup2, val_b1] at this
      rw [show (!c) = b by rw [hc, Bool.not_not]] at this
      exact this
    · rw [if_neg hlt]
      have hr : cmpI m n = 0 ∨ cmpI m n = 1 := by
        unfold cmpI; rw [if_neg (by omega)]
        split
        · right; rfl
        · left; rfl
      have r2 : RowGives Try.prog (sigN (lst [m, n, m - n])) ⟨78, [inN 0, inN 1], .s (inN 2)⟩ := by
        refine ⟨rfl, ?_⟩
        simp only [List.map_cons, List.map_nil, val_inN, valV_s]
        exact f_sub m n hn (by omega)
      have := run_gives _ _ [] (more_row (r1 _ _ rfl) (one_row r2)) no_test ⟨89, [sgN 0 b, sgN 1 (!b)], _⟩ 100 (fun σ => plus_more σ b _ hr)
      simp only [List.map_cons, List.map_nil, val_sgN, valV_tup2, val_b1] at this
      rw [← hc] at this
      exact this
theorem minus_run (σ : Nat → Int) (b c d f : Bool) : runs σ [⟨89, [sgN 0 b, sgN 1 (!c)], .tup [sgN 2 d, b1 f]⟩] [] ⟨90, [sgN 0 b, sgN 1 c], .tup [sgN 2 d, b1 f]⟩ 100 = true := by
  cases b <;> cases c <;> cases d <;> cases f <;> kernel_rfl
/-- (signed).minus. -/
theorem f_minus (m n : Nat) (b c : Bool) (hm : m < 13407807929942597099574024998205846127479365820592393377723561443721764030073546976801874298166903427690031858186486050853753882811946569946433649006084096) (hn : n < 13407807929942597099574024998205846127479365820592393377723561443721764030073546976801874298166903427690031858186486050853753882811946569946433649006084096) : Gives Try.prog 90 [sgV m b, sgV n c] (plusR m b n (!c)).V := by
  have r1 : RowGives Try.prog (sigN (lst [m, n, (plusR m b n (!c)).n])) ⟨89, [sgN 0 b, sgN 1 (!c)], .tup [sgN 2 (plusR m b n (!c)).b, b1 (plusR m b n (!c)).f]⟩ := by
    refine ⟨rfl, ?_⟩
    simp only [List.map_cons, List.map_nil, val_sgN, valV_tup2, val_b1]
    exact f_plus m n b (!c) hm hn
  have := run_gives _ _ [] (one_row r1) no_test ⟨90, [sgN 0 b, sgN 1 c], _⟩ 100 (fun σ => minus_run σ b c _ _)
  simp only [List.map_cons, List.map_nil, val_sgN, valV_tup2, val_b1] at this
  exact this

/-! ### combine -/
def opOf (o : Int) (fn g : FuncId) : Prop := (o = 43 ∧ fn = 89 ∧ g = 24) ∨ (o = 45 ∧ fn = 90 ∧ g = 25) ∨ (o = 42 ∧ fn = 80 ∧ g = 26)
def o1 (o : Int) : V1 := .one (.v (.int .i32 o))
theorem combine_run (σ : Nat → Int) (o : Int) (fn g : FuncId) (ho : opOf o fn g) (b c d f : Bool) (e : Int) (he : e = 0 ∨ e = 6) : runs σ [⟨50, [inN 0], .s (sgN 2 b)⟩, ⟨50, [inN 1], .s (sgN 3 c)⟩, ⟨fn, [sgN 2 b, sgN 3 c], .tup [sgN 4 d, b1 f]⟩, ⟨49, [sgN 4 d, b1 f], .tup [inN 5, i1 e]⟩] [] ⟨59, [inN 0, o1 o, inN 1], .tup [inN 5, i1 e]⟩ 100 = true := by
  rcases ho with ⟨rfl, rfl, rfl⟩ | ⟨rfl, rfl, rfl⟩ | ⟨rfl, rfl, rfl⟩ <;> rcases he with rfl | rfl <;> cases b <;> cases c <;> cases d <;> cases f <;> kernel_rfl
theorem front_run (σ : Nat → Int) (o : Int) (fn g : FuncId) (ho : opOf o fn g) (e : Int) (he : e = 0 ∨ e = 6) : runs σ [⟨59, [inN 0, o1 o, inN 1], .tup [inN 2, i1 e]⟩] [] ⟨g, [inN 0, inN 1], .tup [inN 2, i1 e]⟩ 100 = true := by
  rcases ho with ⟨rfl, rfl, rfl⟩ | ⟨rfl, rfl, rfl⟩ | ⟨rfl, rfl, rfl⟩ <;> rcases he with rfl | rfl <;> kernel_rfl
def resV (x : Int) (good : Prop) [Decidable good] : Value := if good then outV x else bigV
theorem resV_eq (x : Int) (good : Prop) [Decidable good] : ∃ r e, (e = 0 ∨ e = 6) ∧ resV x good = .tuple #[W r, .int .i64 e] := by
  unfold resV
  split
  · exact ⟨x, 0, .inl rfl, rfl⟩
  · exact ⟨0, 6, .inr rfl, rfl⟩
/-- The operations with two integers. -/
theorem f_op (o : Int) (fn g : FuncId) (ho : opOf o fn g) (x y : Int) (hx : fit x) (hy : fit y) (s : Sgd) (hs : s.n < 13407807929942597099574024998205846127479365820592393377723561443721764030073546976801874298166903427690031858186486050853753882811946569946433649006084096) (h : Gives Try.prog fn [sgV x.natAbs (decide (x < 0)), sgV y.natAbs (decide (y < 0))] s.V) :
    Gives Try.prog g [W x, W y] (resV (sg s.n s.b) (s.f = true ∧ fit (sg s.n s.b))) := by
  obtain ⟨r, e, he, hr⟩ := resV_eq (sg s.n s.b) (s.f = true ∧ fit (sg s.n s.b))
  have k1 : RowGives Try.prog (sigN (lst [un x, un y, x.natAbs, y.natAbs, s.n, un r])) ⟨50, [inN 0], .s (sgN 2 (decide (x < 0)))⟩ := by
    refine ⟨rfl, ?_⟩
    simp only [List.map_cons, List.map_nil, val_inN, valV_s, val_sgN]
    exact f_signedOf x hx
  have k2 : RowGives Try.prog (sigN (lst [un x, un y, x.natAbs, y.natAbs, s.n, un r])) ⟨50, [inN 1], .s (sgN 3 (decide (y < 0)))⟩ := by
    refine ⟨rfl, ?_⟩
    simp only [List.map_cons, List.map_nil, val_inN, valV_s, val_sgN]
    exact f_signedOf y hy
  have k3 : RowGives Try.prog (sigN (lst [un x, un y, x.natAbs, y.natAbs, s.n, un r])) ⟨fn, [sgN 2 (decide (x < 0)), sgN 3 (decide (y < 0))], .tup [sgN 4 s.b, b1 s.f]⟩ := by
    refine ⟨rfl, ?_⟩
    simp only [List.map_cons, List.map_nil, valV_tup2, val_sgN, val_b1]
    exact h
  have k4 : RowGives Try.prog (sigN (lst [un x, un y, x.natAbs, y.natAbs, s.n, un r])) ⟨49, [sgN 4 s.b, b1 s.f], .tup [inN 5, i1 e]⟩ := by
    refine ⟨rfl, ?_⟩
    simp only [List.map_cons, List.map_nil, valV_tup2, val_sgN, val_b1, val_inN, val_i1]
    have := f_wideOf s.n s.b s.f hs
    unfold resV at hr
    rw [hr] at this
    exact this
  have c := run_gives _ _ [] (more_row k1 (more_row k2 (more_row k3 (one_row k4)))) no_test ⟨59, [inN 0, o1 o, inN 1], _⟩ 100 (fun σ => combine_run σ o fn g ho _ _ _ _ e he)
  simp only [List.map_cons, List.map_nil, valV_tup2, val_inN, val_i1] at c
  have k5 : RowGives Try.prog (sigN (lst [un x, un y, un r])) ⟨59, [inN 0, o1 o, inN 1], .tup [inN 2, i1 e]⟩ := by
    refine ⟨rfl, ?_⟩
    simp only [List.map_cons, List.map_nil, valV_tup2, val_inN, val_i1]
    exact c
  have d := run_gives _ _ [] (one_row k5) no_test ⟨g, [inN 0, inN 1], _⟩ 100 (fun σ => front_run σ o fn g ho e he)
  simp only [List.map_cons, List.map_nil, valV_tup2, val_inN, val_i1] at d
  rw [hr]
  exact d
theorem abs_lt {x : Int} (h : fit x) : x.natAbs < 13407807929942597099574024998205846127479365820592393377723561443721764030073546976801874298166903427690031858186486050853753882811946569946433649006084096 := by
  have := p512_nat
  unfold fit P511 P512 at *; omega
theorem sg_abs (x : Int) : sg x.natAbs (decide (x < 0)) = x := by
  unfold sg
  by_cases h : x < 0
  · simp only [h, decide_true, if_true]; omega
  · simp only [h, decide_false, Bool.false_eq_true, if_false]; omega
theorem plusR_ok {m n : Nat} {b c : Bool} (hm : m < 13407807929942597099574024998205846127479365820592393377723561443721764030073546976801874298166903427690031858186486050853753882811946569946433649006084096) (hn : n < 13407807929942597099574024998205846127479365820592393377723561443721764030073546976801874298166903427690031858186486050853753882811946569946433649006084096) : (plusR m b n c).n < 13407807929942597099574024998205846127479365820592393377723561443721764030073546976801874298166903427690031858186486050853753882811946569946433649006084096 ∧ ((plusR m b n c).f = true → sg (plusR m b n c).n (plusR m b n c).b = sg m b + sg n c) ∧ ((plusR m b n c).f = false → ¬ fit (sg m b + sg n c)) := by
  have hp := p512_nat
  unfold plusR
  split
  · rename_i h; subst h
    refine ⟨Nat.mod_lt _ pow512, fun h => ?_, fun h => ?_⟩
    · simp only [decide_eq_true_eq] at h
      simp only [Nat.mod_eq_of_lt h]
      cases b <;> simp [sg] <;> omega
    · simp only [decide_eq_false_iff_not] at h
      cases b <;> simp [sg, fit] <;> unfold P511 P512 at * <;> omega
  · rename_i hbc
    split
    · refine ⟨by simp only; omega, fun _ => ?_, fun h => by cases h⟩
      cases b <;> cases c <;> simp [sg] at hbc ⊢ <;> omega
    · refine ⟨by simp only; omega, fun _ => ?_, fun h => by cases h⟩
      cases b <;> cases c <;> simp [sg] at hbc ⊢ <;> omega
theorem resV_sum {s : Sgd} {z : Int} (h1 : s.f = true → sg s.n s.b = z) (h2 : s.f = false → ¬ fit z) : resV (sg s.n s.b) (s.f = true ∧ fit (sg s.n s.b)) = resV z (fit z) := by
  unfold resV
  cases hf : s.f with
  | true => rw [h1 hf]; simp
  | false => rw [if_neg (by simp), if_neg (h2 hf)]
/-- Add. -/
theorem f_Add (x y : Int) (hx : fit x) (hy : fit y) : Gives Try.prog 24 [W x, W y] (resV (x + y) (fit (x + y))) := by
  obtain ⟨h1, h2, h3⟩ := plusR_ok (b := decide (x < 0)) (c := decide (y < 0)) (abs_lt hx) (abs_lt hy)
  have := f_op 43 89 24 (.inl ⟨rfl, rfl, rfl⟩) x y hx hy _ h1 (f_plus _ _ _ _ (abs_lt hx) (abs_lt hy))
  rw [sg_abs, sg_abs] at h2 h3
  rwa [resV_sum h2 h3] at this
/-- Sub. -/
theorem f_Sub (x y : Int) (hx : fit x) (hy : fit y) : Gives Try.prog 25 [W x, W y] (resV (x - y) (fit (x - y))) := by
  obtain ⟨h1, h2, h3⟩ := plusR_ok (b := decide (x < 0)) (c := !decide (y < 0)) (abs_lt hx) (abs_lt hy)
  have := f_op 45 90 25 (.inr (.inl ⟨rfl, rfl, rfl⟩)) x y hx hy _ h1 (f_minus _ _ _ _ (abs_lt hx) (abs_lt hy))
  have e : sg y.natAbs (!decide (y < 0)) = -y := by
    have := sg_abs y
    unfold sg at *
    cases hd : decide (y < 0) <;> rw [hd] at this <;> simp at this ⊢ <;> omega
  rw [sg_abs, e, ← Int.sub_eq_add_neg] at h2 h3
  rwa [resV_sum h2 h3] at this
end Go.Proofs.Yteaglhkacfcgfaa
