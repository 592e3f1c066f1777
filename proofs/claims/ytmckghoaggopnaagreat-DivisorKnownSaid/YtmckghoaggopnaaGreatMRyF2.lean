/-
  compare(x, x) for the ranks of RyF1, each by a run; both rules together.
-/
import Derived.Test.YtmckghoaggopnaaGreatMRyF1
set_option linter.all false
namespace Go.Proofs.YtmckghoaggopnaaGreat.Y
open Go Go.Ry Go.RowKit
def aggR (s : Nat) : V1 := .agg [ci (2 * s + 1), ci (2 * s * (s + 1))]
def rowC (s : Nat) : Row := ⟨18, [aggR s, aggR s], .s (.one (ci 0))⟩
noncomputable def runE (s : Nat) : Bool := (rowC s).l.all bare1 && bareV (rowC s).v && isRun (rowC s) (runC (envT (tab [])) (tab []) isExt 3000 200 true (rowC s).f (rowC s).l mem0)
theorem c0 : allR runE 0 335 = true := by kernel_rfl
theorem c1 : allR runE 335 335 = true := by kernel_rfl
theorem c2 : allR runE 670 335 = true := by kernel_rfl
theorem runE_all {s : Nat} (hs : s < 1005) : runE s = true := by
  by_cases h0 : s < 335
  · have := allR_spec runE 0 335 c0 s h0; rwa [Nat.zero_add] at this
  by_cases h1 : s < 670
  · have := allR_spec runE 335 335 c1 (s - 335) (by omega); rwa [show 335 + (s - 335) = s by omega] at this
  · have := allR_spec runE 670 335 c2 (s - 670) (by omega); rwa [show 670 + (s - 670) = s by omega] at this
theorem comp_known {s : Nat} (hs : s < 1005) : Known Tryz.prog 18 [aggR s, aggR s] (.s (.one (ci 0))) :=
  row_now (rs := []) (r := rowC s) (fun r h => by cases h) (runE_all hs)
/-- Both rules. -/
def famC (f : FuncId) (l : List V1) : Option V :=
  bif Nat.beq f 18 then (match l with
    | [.agg [.v (.int .i64 (.ofNat a)), .v (.int .i64 (.ofNat b))], .agg [.v (.int .i64 (.ofNat a')), .v (.int .i64 (.ofNat b'))]] =>
      bif Nat.blt (a / 2) 1005 && Nat.beq a (2 * (a / 2) + 1) && Nat.beq b (2 * (a / 2) * (a / 2 + 1)) && Nat.beq a' a && Nat.beq b' b then some (.s (.one (ci 0))) else none
    | _ => none) else famR f l
theorem famC_known (f : FuncId) (l : List V1) (v : V) (h : famC f l = some v) : Known Tryz.prog f l v := by
  unfold famC at h
  cases hf : Nat.beq f 18 with
  | false => rw [hf] at h; exact famR_known f l v h
  | true =>
    have := beq_t hf
    subst this
    rw [hf] at h
    simp only [cond_true] at h
    split at h
    · rename_i a b a' b'
      cases hc : Nat.blt (a / 2) 1005 && Nat.beq a (2 * (a / 2) + 1) && Nat.beq b (2 * (a / 2) * (a / 2 + 1)) && Nat.beq a' a && Nat.beq b' b with
      | false => rw [hc] at h; cases h
      | true =>
        rw [hc] at h
        simp only [cond_true, Option.some.injEq] at h
        subst h
        simp only [Bool.and_eq_true] at hc
        obtain ⟨⟨⟨⟨h1, h2⟩, h3⟩, h4⟩, h5⟩ := hc
        have e2 := beq_t h2
        have e3 := beq_t h3
        have e4 := beq_t h4
        have e5 := beq_t h5
        have hk := comp_known (s := a / 2) (blt_t h1)
        unfold aggR at hk
        rw [← e3, ← e2] at hk
        rw [e4, e5]
        exact hk
    · cases h
end Go.Proofs.YtmckghoaggopnaaGreat.Y
