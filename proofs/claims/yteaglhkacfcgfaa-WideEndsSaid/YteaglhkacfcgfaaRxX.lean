/-
  Contracts of package wide, for every value: the sign, the sign apart from the size, and back.
-/
import Derived.Test.YteaglhkacfcgfaaRxW
namespace Go.Proofs.Yteaglhkacfcgfaa
open Go Go.Rx Go.RowKit

theorem fit_zero : fit 0 := by unfold fit P511; omega
/-- Zero as cells. -/
def z8 : V1 := mag 0
theorem val_z8 (σ : Nat → Int) : val1 σ z8 = magV 0 := by kernel_rfl
theorem W_zero : W 0 = magV 0 := rfl
/-- The lowest wide integer's magnitude as cells. -/
def h8 : V1 := mag (6703903964971298549787012499102923063739682910296196688861780721860882015036773488400937149083451713845015929093243025426876941405973284973216824503042048)
theorem val_h8 (σ : Nat → Int) : val1 σ h8 = magV (6703903964971298549787012499102923063739682910296196688861780721860882015036773488400937149083451713845015929093243025426876941405973284973216824503042048) := by kernel_rfl

/-- An integer with its sign apart. -/
def sgV (n : Nat) (b : Bool) : Value := .agg #[.int .u64 (dig n 0), .int .u64 (dig n 1), .int .u64 (dig n 2), .int .u64 (dig n 3), .int .u64 (dig n 4), .int .u64 (dig n 5), .int .u64 (dig n 6), .int .u64 (dig n 7), .bool b]
def sgN (k : Nat) (b : Bool) : V1 := .agg [.ex .u64 (.inp .u64 (8 * k + 0)), .ex .u64 (.inp .u64 (8 * k + 1)), .ex .u64 (.inp .u64 (8 * k + 2)), .ex .u64 (.inp .u64 (8 * k + 3)), .ex .u64 (.inp .u64 (8 * k + 4)), .ex .u64 (.inp .u64 (8 * k + 5)), .ex .u64 (.inp .u64 (8 * k + 6)), .ex .u64 (.inp .u64 (8 * k + 7)), .v (.bool b)]
theorem val_sgN (f : Nat → Nat) (k : Nat) (b : Bool) : val1 (sigN f) (sgN k b) = sgV (f k) b := by
  simp only [sgN, val1, valC, sgV, List.map_cons, List.map_nil, inp_sigN f k 0 (by decide), inp_sigN f k 1 (by decide), inp_sigN f k 2 (by decide), inp_sigN f k 3 (by decide), inp_sigN f k 4 (by decide), inp_sigN f k 5 (by decide), inp_sigN f k 6 (by decide), inp_sigN f k 7 (by decide)]

theorem sign_run (σ : Nat → Int) (r : Int) (h : tri r) : runs σ [⟨17, [inN 0, z8], .s (i1 r)⟩] [] ⟨15, [inN 0], .s (i1 r)⟩ 100 = true := by
  rcases h with rfl | rfl | rfl <;> kernel_rfl
/-- Sign. -/
theorem f_Sign (x : Int) (hx : fit x) : Gives Try.prog 15 [W x] (.int .i64 (cmpI x 0)) := by
  have r1 : RowGives Try.prog (sigN fun _ => un x) ⟨17, [inN 0, z8], .s (i1 (cmpI x 0))⟩ := by
    refine ⟨rfl, ?_⟩
    simp only [List.map_cons, List.map_nil, val_inN, val_z8]
    exact f_Cmp x 0 hx fit_zero
  have := run_gives _ _ [] (one_row r1) no_test ⟨15, [inN 0], _⟩ 100 (fun σ => sign_run σ _ (cmpI_tri _ _))
  simp only [List.map_cons, List.map_nil, val_inN] at this
  exact this

theorem signed_runN (σ : Nat → Int) : runs σ [⟨15, [inN 0], .s (i1 (-1))⟩, ⟨78, [z8, inN 0], .s (inN 1)⟩] [] ⟨50, [inN 0], .s (sgN 1 true)⟩ 100 = true := by kernel_rfl
theorem signed_runZ (σ : Nat → Int) : runs σ [⟨15, [inN 0], .s (i1 0)⟩] [] ⟨50, [inN 0], .s (sgN 0 false)⟩ 100 = true := by kernel_rfl
theorem signed_runP (σ : Nat → Int) : runs σ [⟨15, [inN 0], .s (i1 1)⟩] [] ⟨50, [inN 0], .s (sgN 0 false)⟩ 100 = true := by kernel_rfl
theorem diff_abs {x : Int} (h : fit x) (h0 : x < 0) : 0 + 13407807929942597099574024998205846127479365820592393377723561443721764030073546976801874298166903427690031858186486050853753882811946569946433649006084096 - un x = x.natAbs := by
  have h1 := un_neg h h0
  have h2 := p512_nat
  unfold fit P511 P512 at *; omega
theorem un_abs {x : Int} (h : fit x) (h0 : 0 ≤ x) : un x = x.natAbs := by
  have := un_pos h h0; omega
/-- signedOf. -/
theorem f_signedOf (x : Int) (hx : fit x) : Gives Try.prog 50 [W x] (sgV x.natAbs (decide (x < 0))) := by
  have r1 : ∀ g r, cmpI x 0 = r → g 0 = un x → RowGives Try.prog (sigN g) ⟨15, [inN 0], .s (i1 r)⟩ := fun g r h hg => by
    refine ⟨rfl, ?_⟩
    simp only [List.map_cons, List.map_nil, val_inN, hg]
    rw [← h]
    exact f_Sign x hx
  by_cases h0 : x < 0
  · have hc : cmpI x 0 = -1 := by unfold cmpI; rw [if_pos h0]
    have r2 : RowGives Try.prog (sigN (two2 (un x) x.natAbs)) ⟨78, [z8, inN 0], .s (inN 1)⟩ := by
      refine ⟨rfl, ?_⟩
      simp only [List.map_cons, List.map_nil, val_inN, val_z8, valV]
      have := f_diff 0 (un x) (un_lt x)
      rw [diff_abs hx h0] at this
      exact this
    have := run_gives _ _ [] (more_row (r1 _ _ hc rfl) (one_row r2)) no_test ⟨50, [inN 0], _⟩ 100 signed_runN
    simp only [List.map_cons, List.map_nil, val_inN, valV, val_sgN] at this
    rw [decide_eq_true h0]
    exact this
  · have hu := un_abs hx (by omega)
    rw [decide_eq_false h0, ← hu]
    by_cases h1 : x = 0
    · have hc : cmpI x 0 = 0 := by unfold cmpI; rw [if_neg h0, if_neg (by omega)]
      have := run_gives (sigN fun _ => un x) _ [] (one_row (r1 _ _ hc rfl)) no_test ⟨50, [inN 0], _⟩ 100 signed_runZ
      simp only [List.map_cons, List.map_nil, val_inN, valV, val_sgN] at this
      exact this
    · have hc : cmpI x 0 = 1 := by unfold cmpI; rw [if_neg h0, if_pos (by omega)]
      have := run_gives (sigN fun _ => un x) _ [] (one_row (r1 _ _ hc rfl)) no_test ⟨50, [inN 0], _⟩ 100 signed_runP
      simp only [List.map_cons, List.map_nil, val_inN, valV, val_sgN] at this
      exact this

/-! ### Back -/
/-- The integer that has a size and a sign. -/
def sg (n : Nat) (b : Bool) : Int := if b then -(n : Int) else n
def outV (x : Int) : Value := .tuple #[W x, .int .i64 0]
def bigV : Value := .tuple #[W 0, .int .i64 6]
theorem wide_bad (σ : Nat → Int) (b f : Bool) (r : Int) (h : tri r) (hb : (f = false) ∨ r = 1 ∨ (r = 0 ∧ b = false)) : runs σ [⟨48, [inN 0, h8], .s (i1 r)⟩] [] ⟨49, [sgN 0 b, b1 f], .tup [z8, i1 6]⟩ 100 = true := by
  rcases h with rfl | rfl | rfl <;> cases b <;> cases f <;> simp at hb <;> kernel_rfl
theorem wide_neg (σ : Nat → Int) (r : Int) (h : r = -1 ∨ r = 0) : runs σ [⟨48, [inN 0, h8], .s (i1 r)⟩, ⟨78, [z8, inN 0], .s (inN 1)⟩] [] ⟨49, [sgN 0 true, b1 true], .tup [inN 1, i1 0]⟩ 100 = true := by
  rcases h with rfl | rfl <;> kernel_rfl
theorem wide_pos (σ : Nat → Int) : runs σ [⟨48, [inN 0, h8], .s (i1 (-1))⟩] [] ⟨49, [sgN 0 false, b1 true], .tup [inN 0, i1 0]⟩ 100 = true := by kernel_rfl
theorem p511_nat : ((6703903964971298549787012499102923063739682910296196688861780721860882015036773488400937149083451713845015929093243025426876941405973284973216824503042048 : Nat) : Int) = P511 := by kernel_rfl
theorem magV_congr {m n : Nat} (h : m % 13407807929942597099574024998205846127479365820592393377723561443721764030073546976801874298166903427690031858186486050853753882811946569946433649006084096 = n % 13407807929942597099574024998205846127479365820592393377723561443721764030073546976801874298166903427690031858186486050853753882811946569946433649006084096) : magV m = magV n := by rw [← magV_mod m, ← magV_mod n, h]
theorem W_pos {n : Nat} (h : n < 6703903964971298549787012499102923063739682910296196688861780721860882015036773488400937149083451713845015929093243025426876941405973284973216824503042048) : W n = magV n := by
  have h1 := p511_nat
  have hf : fit n := by unfold fit; unfold P511 at *; omega
  have := un_pos hf (by omega)
  unfold W
  rw [show un n = n by omega]
theorem W_neg {n : Nat} (h : n ≤ 6703903964971298549787012499102923063739682910296196688861780721860882015036773488400937149083451713845015929093243025426876941405973284973216824503042048) : W (-(n : Int)) = magV (0 + 13407807929942597099574024998205846127479365820592393377723561443721764030073546976801874298166903427690031858186486050853753882811946569946433649006084096 - n) := by
  have h1 := p511_nat
  have h2 := p512_nat
  have hf : fit (-(n : Int)) := by unfold fit; unfold P511 at *; omega
  by_cases h0 : n = 0
  · subst h0; exact magV_congr (m := un 0) (by decide)
  · have := un_neg hf (by omega)
    unfold W
    congr 1
    unfold P512 at *
    omega
/-- wideOf. -/
theorem f_wideOf (n : Nat) (b f : Bool) (hn : n < 13407807929942597099574024998205846127479365820592393377723561443721764030073546976801874298166903427690031858186486050853753882811946569946433649006084096) : Gives Try.prog 49 [sgV n b, .bool f] (if f = true ∧ fit (sg n b) then outV (sg n b) else bigV) := by
  have hp := p511_nat
  have r1 : ∀ g r, cmpI n ((6703903964971298549787012499102923063739682910296196688861780721860882015036773488400937149083451713845015929093243025426876941405973284973216824503042048 : Nat) : Int) = r → g 0 = n → RowGives Try.prog (sigN g) ⟨48, [inN 0, h8], .s (i1 r)⟩ := fun g r h hg => by
    refine ⟨rfl, ?_⟩
    simp only [List.map_cons, List.map_nil, val_inN, val_h8, hg]
    rw [← h]
    exact f_compare n (6703903964971298549787012499102923063739682910296196688861780721860882015036773488400937149083451713845015929093243025426876941405973284973216824503042048) hn (by decide)
  have bad : ∀ r, cmpI n ((6703903964971298549787012499102923063739682910296196688861780721860882015036773488400937149083451713845015929093243025426876941405973284973216824503042048 : Nat) : Int) = r → ((f = false) ∨ r = 1 ∨ (r = 0 ∧ b = false)) → Gives Try.prog 49 [sgV n b, .bool f] bigV := fun r hr hb => by
    have := run_gives (sigN fun _ => n) _ [] (one_row (r1 _ _ hr rfl)) no_test ⟨49, [sgN 0 b, b1 f], _⟩ 100 (fun σ => wide_bad σ b f r (by rw [← hr]; exact cmpI_tri _ _) hb)
    simp only [List.map_cons, List.map_nil, val_sgN, valV, val_b1, val_z8] at this
    exact this
  by_cases hf : f = true ∧ fit (sg n b)
  · rw [if_pos hf]
    obtain ⟨rfl, hf⟩ := hf
    cases b with
    | true =>
      simp only [sg, if_true] at hf ⊢
      have hle : n ≤ 6703903964971298549787012499102923063739682910296196688861780721860882015036773488400937149083451713845015929093243025426876941405973284973216824503042048 := by unfold fit at hf; unfold P511 at *; omega
      have hr : cmpI n ((6703903964971298549787012499102923063739682910296196688861780721860882015036773488400937149083451713845015929093243025426876941405973284973216824503042048 : Nat) : Int) = -1 ∨ cmpI n ((6703903964971298549787012499102923063739682910296196688861780721860882015036773488400937149083451713845015929093243025426876941405973284973216824503042048 : Nat) : Int) = 0 := by
        unfold cmpI
        by_cases hlt : n < 6703903964971298549787012499102923063739682910296196688861780721860882015036773488400937149083451713845015929093243025426876941405973284973216824503042048
        · left; rw [if_pos (by omega)]
        · right; rw [if_neg (by omega), if_neg (by omega)]
      have r2 : RowGives Try.prog (sigN (two2 n (0 + 13407807929942597099574024998205846127479365820592393377723561443721764030073546976801874298166903427690031858186486050853753882811946569946433649006084096 - n))) ⟨78, [z8, inN 0], .s (inN 1)⟩ := by
        refine ⟨rfl, ?_⟩
        simp only [List.map_cons, List.map_nil, val_inN, val_z8, valV]
        exact f_diff 0 n hn
      have := run_gives _ _ [] (more_row (r1 _ _ rfl rfl) (one_row r2)) no_test ⟨49, [sgN 0 true, b1 true], _⟩ 100 (fun σ => wide_neg σ _ hr)
      simp only [List.map_cons, List.map_nil, val_sgN, valV, val_b1, val_inN, val_i1] at this
      unfold outV
      rw [W_neg hle]
      exact this
    | false =>
      simp only [sg] at hf ⊢
      have hlt : n < 6703903964971298549787012499102923063739682910296196688861780721860882015036773488400937149083451713845015929093243025426876941405973284973216824503042048 := by simp only [Bool.false_eq_true, if_false] at hf; unfold fit at hf; unfold P511 at *; omega
      have hr : cmpI n ((6703903964971298549787012499102923063739682910296196688861780721860882015036773488400937149083451713845015929093243025426876941405973284973216824503042048 : Nat) : Int) = -1 := by unfold cmpI; rw [if_pos (by omega)]
      have := run_gives (sigN fun _ => n) _ [] (one_row (r1 _ _ hr rfl)) no_test ⟨49, [sgN 0 false, b1 true], _⟩ 100 wide_pos
      simp only [List.map_cons, List.map_nil, val_sgN, valV, val_b1, val_inN, val_i1] at this
      unfold outV
      simp only [Bool.false_eq_true, if_false]
      rw [W_pos hlt]
      exact this
  · rw [if_neg hf]
    refine bad _ rfl ?_
    cases f with
    | false => exact .inl rfl
    | true =>
      right
      have hf' : ¬ fit (sg n b) := fun h => hf ⟨rfl, h⟩
      unfold cmpI
      cases b with
      | true =>
        simp only [sg, if_true] at hf'
        left
        rw [if_neg (by unfold fit at hf'; unfold P511 at *; omega), if_pos (by unfold fit at hf'; unfold P511 at *; omega)]
      | false =>
        simp only [sg, Bool.false_eq_true, if_false] at hf'
        have : ¬ ((n : Int) < ((6703903964971298549787012499102923063739682910296196688861780721860882015036773488400937149083451713845015929093243025426876941405973284973216824503042048 : Nat) : Int)) := by unfold fit at hf'; unfold P511 at *; omega
        rw [if_neg this]
        by_cases h2 : ((6703903964971298549787012499102923063739682910296196688861780721860882015036773488400937149083451713845015929093243025426876941405973284973216824503042048 : Nat) : Int) < n
        · left; rw [if_pos h2]
        · right; rw [if_neg h2]; exact ⟨rfl, rfl⟩
end Go.Proofs.Yteaglhkacfcgfaa
