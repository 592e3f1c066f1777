/-
  rank(MeDean, 1, s) for s from 0 to 1000: (2 s + 1) / (2 s (s + 1)), each by a run.
-/
import Derived.Test.YtmckghoaggopnaaGreatMTI
set_option linter.all false
namespace Go.Proofs.YtmckghoaggopnaaGreat.Y
open Go Go.Ry Go.RowKit
def ci (n : Nat) : C := .v (.int .i64 (.ofNat n))
def rowS (s : Nat) : Row := ⟨17, [.one (ci 12), .one (ci 1), .one (ci s)], .s (.agg [ci (2 * s + 1), ci (2 * s * (s + 1))])⟩
noncomputable def runS (s : Nat) : Bool := (rowS s).l.all bare1 && bareV (rowS s).v && isRun (rowS s) (runC (envT (tab [])) (tab []) isExt 3000 200 true (rowS s).f (rowS s).l mem0)
/-- k numbers from s on. -/
noncomputable def allR (P : Nat → Bool) (s k : Nat) : Bool := Nat.rec (motive := fun _ => Bool) true (fun i ih => Bool.rec (motive := fun _ => Bool) false ih (P (Nat.add s i))) k
theorem allR_spec (P : Nat → Bool) (s : Nat) : ∀ k, allR P s k = true → ∀ i, i < k → P (s + i) = true
  | 0, _, i, hi => absurd hi (Nat.not_lt_zero i)
  | k + 1, h, i, hi => by
    have h' : sel (P (s + k)) (allR P s k) false = true := h
    cases hk : P (s + k) with
    | false => rw [hk] at h'; cases h'
    | true =>
      rw [hk] at h'
      by_cases he : i = k
      · rw [he]; exact hk
      · exact allR_spec P s k h' i (by omega)
theorem b0 : allR runS 0 201 = true := by kernel_rfl
theorem b1 : allR runS 201 201 = true := by kernel_rfl
theorem b2 : allR runS 402 201 = true := by kernel_rfl
theorem b3 : allR runS 603 201 = true := by kernel_rfl
theorem b4 : allR runS 804 201 = true := by kernel_rfl
theorem runS_all {s : Nat} (hs : s < 1005) : runS s = true := by
  by_cases h0 : s < 201
  · have := allR_spec runS 0 201 b0 s h0; rwa [Nat.zero_add] at this
  by_cases h1 : s < 402
  · have := allR_spec runS 201 201 b1 (s - 201) (by omega); rwa [show 201 + (s - 201) = s by omega] at this
  by_cases h2 : s < 603
  · have := allR_spec runS 402 201 b2 (s - 402) (by omega); rwa [show 402 + (s - 402) = s by omega] at this
  by_cases h3 : s < 804
  · have := allR_spec runS 603 201 b3 (s - 603) (by omega); rwa [show 603 + (s - 603) = s by omega] at this
  · have := allR_spec runS 804 201 b4 (s - 804) (by omega); rwa [show 804 + (s - 804) = s by omega] at this
theorem rank_known {s : Nat} (hs : s < 1005) : Known Tryz.prog 17 [.one (ci 12), .one (ci 1), .one (ci s)] (.s (.agg [ci (2 * s + 1), ci (2 * s * (s + 1))])) :=
  row_now (rs := []) (r := rowS s) (fun r h => by cases h) (runS_all hs)
/-- The rule. -/
def famR (f : FuncId) (l : List V1) : Option V :=
  bif Nat.beq f 17 then (match l with
    | [.one (.v (.int .i64 12)), .one (.v (.int .i64 1)), .one (.v (.int .i64 (.ofNat s)))] => bif Nat.blt s 1005 then some (.s (.agg [ci (2 * s + 1), ci (2 * s * (s + 1))])) else none
    | _ => none) else none
theorem famR_known (f : FuncId) (l : List V1) (v : V) (h : famR f l = some v) : Known Tryz.prog f l v := by
  unfold famR at h
  cases hf : Nat.beq f 17 with
  | false => rw [hf] at h; cases h
  | true =>
    have := beq_t hf
    subst this
    rw [hf] at h
    simp only [cond_true] at h
    split at h
    · rename_i s
      cases hs : Nat.blt s 1005 with
      | false => rw [hs] at h; cases h
      | true =>
        rw [hs] at h
        simp only [cond_true, Option.some.injEq] at h
        subst h
        exact rank_known (blt_t hs)
    · cases h
end Go.Proofs.YtmckghoaggopnaaGreat.Y
