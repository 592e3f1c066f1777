/-
  The runner over a whole call in one world: rows whose arguments hold cells of which nothing is known.
-/
import Derived.Test.YtaafimabgcnbaabGreatDoorMG
set_option linter.all false
namespace Go.Rx
open Go Go.RowKit
/-- What a row says in the worlds behind W. -/
def RowL (P : Program) (W : World) (L : Lets) (r : Row) : Prop :=
  ∀ (ρ : Loc') (xs : List Value) (w : World), Below W.heap.size W w → ρ.val = L → All2 (D1 ρ) r.l xs → (callFunc r.f xs.toArray).run P w = .ok (.enter r.f xs.toArray) w ∧
    Calls P r.f xs.toArray w fun e w' => ∃ x, e = .returned x ∧ DV ρ r.v x ∧ Below w.heap.size w w'
theorem sumOf_mem : ∀ {rs : List Row} {f : FuncId} {l : List V1} {v : V}, sumOf rs f l = some v → ∃ r, r ∈ rs ∧ r.f = f ∧ r.l = l ∧ r.v = v
  | [], _, _, _, h => by cases h
  | r :: rs, f, l, v, h => by
    simp only [sumOf] at h
    cases hc : Nat.beq r.f f && eqL eq1 r.l l with
    | true =>
      rw [hc] at h
      simp only [cond_true, Option.some.injEq] at h
      simp only [Bool.and_eq_true] at hc
      exact ⟨r, by simp, beq_t hc.1, eqL_eq eq1_eq hc.2, h⟩
    | false =>
      rw [hc] at h
      obtain ⟨q, h1, h2⟩ := sumOf_mem (rs := rs) h
      exact ⟨q, by simp [h1], h2⟩
theorem rowL_of {P : Program} {W : World} {L : Lets} {r : Row} (h : RowGives P L.num r) : RowL P W L r := by
  intro ρ xs w _ hV hx
  obtain ⟨h1, h2⟩ := h
  simp only [Bool.and_eq_true] at h1
  have e := All2.inv_ok (f := val1 ρ.val.num) (fun _ _ h hx => ok1_inv h hx) h1.1 hx
  subst e
  rw [hV]
  obtain ⟨k1, k2⟩ := h2 w
  refine ⟨k1, k2.mono fun e w' he => ?_⟩
  obtain ⟨rfl, hb⟩ := he
  exact ⟨_, rfl, by rw [← hV]; exact okV_val h1.2, hb⟩
/-- A whole call in a world, by one run. -/
theorem call_run {E : Env} {w : World} (hE : EnvOk E w) {fuel : Nat} {r : Row} (h : (okV r.v && isRun r (funX E fuel r.f r.l ⟨.e, 0, 0⟩)) = true) {xs : List Value} (hx : All2 (D1 (noLoc E.val)) r.l xs) :
    (callFunc r.f xs.toArray).run E.P w = .ok (.enter r.f xs.toArray) w ∧ Calls E.P r.f xs.toArray w fun e w' => e = .returned (valV E.val.num r.v) ∧ Below w.heap.size w w' := by
  simp only [Bool.and_eq_true] at h
  obtain ⟨h2, h3⟩ := h
  unfold isRun at h3
  split at h3
  · rename_i v m hm
    have := eqV_eq h3
    subst this
    have hR := run_ok hE (code_ok hE fuel)
    obtain ⟨k1, k2⟩ := hR.calls _ _ _ _ _ hm (noLoc E.val) xs w rfl hx (MemRel.empty w _)
    refine ⟨k1, k2.mono fun e w' he => ?_⟩
    obtain ⟨x, ρ', rfl, hx, _, h5, h6⟩ := he
    have := okV_inv h2 h5
    rw [hx.val] at this
    exact ⟨by rw [this]; rfl, h6.below⟩
  · cases h3
end Go.Rx
namespace Go.Proofs.YtaafimabgcnbaabGreatDoor
open Go Go.Rx Go.RowKit
noncomputable def envL (L : Lets) (rs : List Row) (ts : List Test) : Env :=
  ⟨Tryz.prog, extS, sumOf rs, L, fun op a b => match litTest op a b with | some r => some r | none => testOf ts op a b⟩
theorem envL_ok {L : Lets} {rs : List Row} {ts : List Test} {W : World} (hr : ∀ r ∈ rs, RowL Tryz.prog W L r) (ht : ∀ t ∈ ts, TestOk L.num t) : EnvOk (envL L rs ts) W where
  mixed := (env0 W).mixed
  name := (env0 W).name
  ext := fun f l v h ρ xs _ hx => extS_ok f l v h ρ xs hx
  sum := fun f l v h ρ xs w hb hV hx => by
    obtain ⟨r, h1, rfl, rfl, rfl⟩ := sumOf_mem h
    exact hr r h1 ρ xs w hb hV hx
  test := fun op a b r h k => by
    simp only [envL] at h ⊢
    split at h
    · rename_i q hq
      simp only [Option.some.injEq] at h; subst h
      exact litTest_ok hq L.num k
    · exact testOf_ok ht h k
end Go.Proofs.YtaafimabgcnbaabGreatDoor
