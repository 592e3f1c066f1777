/-
  THE RUNNER IS SOUND, part 8: what an operation looks at.
-/
import Derived.Test.YteaglhkacfcgfaaRxI
namespace Go.Rx
open Go Go.RowKit

/-- Two states are alike for an operation: its operands hold the same, and memory is the same. -/
structure Like (st st' : St) (o : Oper) : Prop where
  ev : ∀ x ∈ o.op.operands, st.eval x = st'.eval x
  m : st.m = st'.m

section
variable {st st' : St}
theorem ev1_eq {x : Operand} (h : st.eval x = st'.eval x) : st.ev1 x = st'.ev1 x := by unfold St.ev1; rw [h]
theorem evc_eq {x : Operand} (h : st.eval x = st'.eval x) : st.evc x = st'.evc x := by unfold St.evc; rw [h]
theorem parts_eq : ∀ {l : List (Nat × Operand)}, (∀ p ∈ l, st.eval p.2 = st'.eval p.2) → partsX st l = partsX st' l
  | [], _ => rfl
  | (i, x) :: r, h => by
    simp only [partsX]
    rw [ev1_eq (h (i, x) (by simp)), parts_eq fun p hp => h p (by simp [hp])]
theorem args_eq : ∀ {l : List Operand}, (∀ x ∈ l, st.eval x = st'.eval x) → argsX st l = argsX st' l
  | [], _ => rfl
  | x :: r, h => by
    simp only [argsX]
    rw [ev1_eq (h x (by simp)), args_eq fun p hp => h p (by simp [hp])]
theorem caps_eq : ∀ {l : List Operand}, (∀ x ∈ l, st.eval x = st'.eval x) → pureX.capsX st l = pureX.capsX st' l
  | [], _ => rfl
  | x :: r, h => by
    simp only [pureX.capsX]
    rw [evc_eq (h x (by simp)), caps_eq fun p hp => h p (by simp [hp])]
theorem optInt_eq {x : Option Operand} (h : ∀ y, x = some y → st.eval y = st'.eval y) : optInt st x = optInt st' x := by
  cases x with
  | none => rfl
  | some y => simp only [optInt]; rw [evc_eq (h y rfl)]

/-- An operation that looks into no memory yields the same whatever memory is; one that looks into one block yields the same if that block is the same. -/
theorem pure_like (P : Program) {o : Oper} (h : ∀ x ∈ o.op.operands, st.eval x = st'.eval x)
    (hm : ∀ b, looksAt st o = some (some b) → st.m.hp.get b = st'.m.hp.get b) : pureX P st o = pureX P st' o := by
  obtain ⟨dst, op, type, pos, after, guard⟩ := o
  simp only at h
  cases op <;> simp only [Op.operands] at h <;> try (simp only [pureX]; done)
  case move x => simp only [pureX]; exact h x (by simp)
  case assign x => simp only [pureX]; exact h x (by simp)
  case pick c y z => simp only [pureX]; rw [evc_eq (h c (by simp)), h y (by simp), h z (by simp)]
  case build t ps =>
    simp only [pureX]
    rw [parts_eq (l := ps.toList) fun p hp => h p.2 (by simp; exact ⟨p.1, by simpa using hp⟩)]
  case load t x =>
    have hx := evc_eq (h x (by simp))
    simp only [pureX]
    rw [← hx]
    split
    · rename_i b o hc
      have := hm b (by simp only [looksAt, hc])
      simp only [loadX, this]
    · rfl
  case nilCheck x => simp only [pureX]; rw [evc_eq (h x (by simp))]
  case binOp op t x y ty => simp only [pureX]; rw [ev1_eq (h x (by simp)), ev1_eq (h y (by simp))]
  case unOp op t x => simp only [pureX]; rw [ev1_eq (h x (by simp))]
  case convert s d x => simp only [pureX]; rw [ev1_eq (h x (by simp))]
  case makeFunc f fst cs =>
    cases f with
    | func f =>
      simp only [pureX]
      rw [caps_eq (l := cs.toList) fun x hx => h x (by simp; right; simpa using hx)]
    | _ => rfl
  case slice t x lo hi mx =>
    cases mx with
    | some _ => rfl
    | none =>
      simp only [pureX, sliceX]
      rw [evc_eq (h x (by simp)), optInt_eq (x := lo) (fun y hy => h y (by subst hy; simp)), optInt_eq (x := hi) (fun y hy => h y (by subst hy; simp))]
  case fieldAddr t x f => simp only [pureX]; rw [evc_eq (h x (by simp))]
  case field t x f => simp only [pureX]; rw [ev1_eq (h x (by simp))]
  case indexAddr t x i => simp only [pureX]; rw [evc_eq (h x (by simp)), evc_eq (h i (by simp))]
  case index t x i => simp only [pureX]; rw [ev1_eq (h x (by simp)), evc_eq (h i (by simp))]
  case lookup t m k ok =>
    cases ok with
    | true => rfl
    | false =>
      have h1 := evc_eq (h m (by simp))
      have h2 := evc_eq (h k (by simp))
      simp only [pureX, lookX]
      rw [← h1, ← h2]
      split
      · rename_i b kk i hc _
        rw [hm b (by simp only [looksAt, hc])]
      · rfl
  case extract t i => simp only [pureX]; rw [h t (by simp)]
  case call c =>
    obtain ⟨callee, args, ts⟩ := c
    cases callee with
    | builtin b =>
      cases b <;> try rfl
      case len =>
        simp only [pureX]
        cases ha : args[0]? with
        | none => rfl
        | some x =>
          have : x ∈ args := Array.mem_of_getElem? ha
          cases ts[0]? with
          | none => rfl
          | some t =>
            simp only
            rw [ev1_eq (h x (by simp [Call.operands, this]))]
      case max =>
        simp only [pureX]
        split
        · rename_i x y hxy
          have h1 : x ∈ args := by have : x ∈ args.toList := by simp [hxy]
                                   simpa using this
          have h2 : y ∈ args := by have : y ∈ args.toList := by simp [hxy]
                                   simpa using this
          rw [evc_eq (h x (by simp [Call.operands, h1])), evc_eq (h y (by simp [Call.operands, h2]))]
        · rfl
      case min =>
        simp only [pureX]
        split
        · rename_i x y hxy
          have h1 : x ∈ args := by have : x ∈ args.toList := by simp [hxy]
                                   simpa using this
          have h2 : y ∈ args := by have : y ∈ args.toList := by simp [hxy]
                                   simpa using this
          rw [evc_eq (h x (by simp [Call.operands, h1])), evc_eq (h y (by simp [Call.operands, h2]))]
        · rfl
    | _ => rfl

theorem orc_like (E : Env) {o : Oper} (h : ∀ x ∈ o.op.operands, st.eval x = st'.eval x) : orcX E st o = orcX E st' o := by
  unfold orcX
  split
  · rename_i op t x y ty hop
    rw [ev1_eq (h x (by rw [hop]; simp [Op.operands])), ev1_eq (h y (by rw [hop]; simp [Op.operands]))]
  · rename_i s d x hop
    rw [evc_eq (h x (by rw [hop]; simp [Op.operands]))]
  · rfl
theorem pureO_like (E : Env) {o : Oper} (h : ∀ x ∈ o.op.operands, st.eval x = st'.eval x)
    (hm : ∀ b, looksAt st o = some (some b) → st.m.hp.get b = st'.m.hp.get b) : pureO E st o = pureO E st' o := by
  unfold pureO
  rw [pure_like E.P h hm, orc_like E h]
theorem rowOf_eq (h : st.m = st'.m) (c : C) : rowOf st c = rowOf st' c := by
  cases c <;> simp only [rowOf, h]

theorem mem_like (P : Program) {o : Oper} (h : Like st st' o) : memX P st o = memX P st' o := by
  obtain ⟨dst, op, type, pos, after, guard⟩ := o
  obtain ⟨h, hm⟩ := h
  simp only at h
  cases op <;> simp only [Op.operands] at h <;> try (simp only [memX]; done)
  case alloc t => simp only [memX]; rw [hm]
  case box t x => simp only [memX]; rw [hm, ev1_eq (h x (by simp))]
  case store t x y => simp only [memX]; rw [hm, evc_eq (h x (by simp)), ev1_eq (h y (by simp))]
  case makeMap t r => cases r with
    | none => simp only [memX]; rw [hm]
    | some _ => rfl
  case insert t m k x => simp only [memX]; rw [hm, evc_eq (h m (by simp)), evc_eq (h k (by simp)), evc_eq (h x (by simp))]
  case range t x => simp only [memX]; rw [hm, evc_eq (h x (by simp))]
  case next it s => cases s with
    | true => simp only [memX]; rw [hm, evc_eq (h it (by simp))]
    | false => rfl
  case call c =>
    obtain ⟨callee, args, ts⟩ := c
    cases callee with
    | builtin b =>
      cases b <;> try rfl
      case copy =>
        simp only [memX]
        split
        · rename_i d s t hds ht
          have h1 : d ∈ args := by have : d ∈ args.toList := by simp [hds]
                                   simpa using this
          have h2 : s ∈ args := by have : s ∈ args.toList := by simp [hds]
                                   simpa using this
          rw [evc_eq (h d (by simp [Call.operands, h1])), evc_eq (h s (by simp [Call.operands, h2])), hm]
          simp only [rowOf_eq hm]
        · rfl
    | _ => rfl

theorem op_like {E : Env} {run : Runs} {o : Oper} (h : Like st st' o) : opX E run st o = opX E run st' o := by
  unfold opX actX
  rw [pureO_like E h.ev (fun _ _ => by rw [h.m]), h.m]
  split
  · rfl
  · split
    · rename_i f args ts hop
      have hf : st.eval f = st'.eval f := h.ev f (by rw [hop]; simp [Op.operands, Call.operands])
      have ha : ∀ x ∈ args.toList, st.eval x = st'.eval x := fun x hx => h.ev x (by rw [hop]; simp [Op.operands, Call.operands]; right; simpa using hx)
      unfold callX
      rw [evc_eq hf, args_eq ha, h.m]
    · exact mem_like E.P h
theorem looksAt_like {o : Oper} (h : ∀ x ∈ o.op.operands, st.eval x = st'.eval x) : looksAt st o = looksAt st' o := by
  unfold looksAt
  split
  · rename_i t x hop; rw [evc_eq (h x (by rw [hop]; simp [Op.operands]))]
  · rename_i t m k ok hop; rw [evc_eq (h m (by rw [hop]; simp [Op.operands]))]
  · rfl
theorem hits_like {o : Oper} (h : ∀ x ∈ o.op.operands, st.eval x = st'.eval x) : hitsX st o = hitsX st' o := by
  unfold hitsX
  split
  · rename_i t x y hop; rw [evc_eq (h x (by rw [hop]; simp [Op.operands]))]
  · rename_i args ts hop
    split
    · rename_i d r hd
      have : d ∈ args.toList := by simp [hd]
      rw [evc_eq (h d (by rw [hop]; simp [Op.operands, Call.operands]; simpa using this))]
    · rfl
  · rfl
end
end Go.Rx
