/-
  THE RUNNER IS SOUND, part 9: a region that draws its order.
  THE RUNNER IS SOUND, part 10: code, and calls.
-/
import Derived.Test.YtjjibclfmknblabGreatMRH
import Derived.RangeFuncRecord
set_option linter.all false
namespace Go.Ry
open Go Go.RowKit

/-! ### Alike -/
theorem eqE_eq : ∀ {a b : Exp}, eqE a b = true → a = b := by
  intro a
  induction a with
  | inp k i => intro b h; cases b <;> simp [eqE] at h; rw [h.1, h.2]
  | lit n => intro b h; cases b <;> simp [eqE] at h; rw [h]
  | bin op k a b iha ihb => intro c h; cases c <;> simp [eqE] at h; rw [h.1.1.1, h.1.1.2, iha h.1.2, ihb h.2]
  | wrap k a iha => intro c h; cases c <;> simp [eqE] at h; rw [h.1, iha h.2]
  | addS a b c iha ihb ihc => intro d h; cases d <;> simp [eqE] at h; rw [iha h.1.1, ihb h.1.2, ihc h.2]
  | addC a b c iha ihb ihc => intro d h; cases d <;> simp [eqE] at h; rw [iha h.1.1, ihb h.1.2, ihc h.2]
  | subS a b c iha ihb ihc => intro d h; cases d <;> simp [eqE] at h; rw [iha h.1.1, ihb h.1.2, ihc h.2]
  | subC a b c iha ihb ihc => intro d h; cases d <;> simp [eqE] at h; rw [iha h.1.1, ihb h.1.2, ihc h.2]
theorem eqC_eq {c d : C} (h : eqC c d = true) : c = d := by
  unfold eqC at h
  split at h
  · simp only [Bool.and_eq_true, decide_eq_true_eq] at h; rw [h.1, h.2]
  · have := eq_of_beq h; rw [this]
  · simp only [Bool.and_eq_true, decide_eq_true_eq] at h; rw [h.1, eqE_eq h.2]
  · rename_i s s'
    simp only [decide_eq_true_eq] at h
    have : s = s' := by
      rw [ByteArray.toList_eq, ByteArray.toList_eq] at h
      cases s; cases s'
      simp at h; rw [h]
    rw [this]
  · rw [beq_t h]
  · simp only [Bool.and_eq_true] at h; rw [beq_t h.1, beq_t h.2]
  · rfl
  · rfl
  · rfl
  · rfl
  · cases h
theorem eqL_eq {α : Type} {eq : α → α → Bool} (he : ∀ x y, eq x y = true → x = y) : ∀ {l m : List α}, eqL eq l m = true → l = m
  | [], [], _ => rfl
  | [], _ :: _, h => by cases h
  | _ :: _, [], h => by cases h
  | x :: l, y :: m, h => by
    simp only [eqL, Bool.and_eq_true] at h
    rw [he _ _ h.1, eqL_eq he h.2]
theorem eqD_eq (c d : C) (h : eqD c d = true) : c = d := by
  unfold eqD at h
  split at h
  · simp only [Bool.and_eq_true] at h; rw [beq_t h.1, beq_t h.2]
  · simp only [Bool.and_eq_true] at h; rw [beq_t h.1.1.1, beq_t h.1.1.2, beq_t h.1.2, beq_t h.2]
  · simp only [Bool.and_eq_true] at h; rw [beq_t h.1.1.1, beq_t h.1.1.2, beq_t h.1.2, beq_t h.2]
  · rfl
  · simp only [Bool.and_eq_true] at h
    rw [beq_t h.1.1, eqL_eq (fun x y h => by simp only [Bool.and_eq_true] at h; exact Prod.ext (beq_t h.1) (beq_t h.2)) h.1.2, eqL_eq (fun x y h => beq_t h) h.2]
  · rw [beq_t h]
  · exact eqC_eq h

section
variable {E : Env} {run : Runs} {ops : Array Oper} {hn0 : Nat} {bs : List (Nat × Nat)} {fin : St}

/-- One step of such a region, floating or not. -/
def stepD (E : Env) (run : Runs) (ops : Array Oper) (hn0 : Nat) (bs : List (Nat × Nat)) (st : St) (j : Nat) (o : Oper) : Option (V × Mem) :=
  match floatX E ops hn0 st j o with
  | some (v, _) => some (v, st.m)
  | none => heavyX E run hn0 bs st o

/-- Whatever order is picked, the runner comes to one state. -/
def Good (E : Env) (run : Runs) (ops : Array Oper) (hn0 : Nat) (fin : St) : Nat → Array Bool → List (Nat × Nat) → St → Prop
  | 0, listed, _, st => Region.ready .any ops listed = [] ∧ st = fin
  | fuel + 1, listed, bs, st => (Region.ready .any ops listed = [] → st = fin) ∧
    ∀ j, j ∈ Region.ready .any ops listed → ∀ o, ops[j]? = some o → ∃ v m, stepD E run ops hn0 bs st j o = some (v, m) ∧ Good E run ops hn0 fin fuel (listed.setIfInBounds j true) bs (St.put ⟨st.tm, m, st.ds⟩ o.dst v)

theorem sameB_eq {x y : Option Blk} (h : sameB x y = true) : x = y := by
  unfold sameB at h
  split at h
  · simp only [Bool.and_eq_true] at h
    rw [eqL_eq eqD_eq h.1, beq_t h.2]
  · cases h
theorem spares_less {p : Nat × Nat} {st : St} {o : Oper} {m' : Mem} (h : spares hn0 (p :: bs) st o m' = true) : spares hn0 bs st o m' = true := by
  unfold spares at *
  cases hb : Nat.ble hn0 m'.wr with
  | true => rfl
  | false =>
    rw [hb] at h
    simp only [Bool.false_or, List.all_cons, Bool.and_eq_true] at h ⊢
    exact h.2
theorem heavy_less {p : Nat × Nat} {st : St} {o : Oper} {r : V × Mem} (h : heavyX E run hn0 (p :: bs) st o = some r) : heavyX E run hn0 bs st o = some r := by
  unfold heavyX at *
  split at h
  · rename_i v m hop
    cases hs : spares hn0 (p :: bs) st o m with
    | false => rw [hs] at h; cases h
    | true => rw [hs] at h; rw [spares_less hs]; exact h
  · cases h
theorem step_less {p : Nat × Nat} {st : St} {j : Nat} {o : Oper} {r : V × Mem} (h : stepD E run ops hn0 (p :: bs) st j o = some r) : stepD E run ops hn0 bs st j o = some r := by
  unfold stepD at *
  split at h
  · exact h
  · exact heavy_less h
theorem good_less {p : Nat × Nat} : ∀ {fuel : Nat} {listed : Array Bool} {bs : List (Nat × Nat)} {st : St}, Good E run ops hn0 fin fuel listed (p :: bs) st → Good E run ops hn0 fin fuel listed bs st
  | 0, _, _, _, h => h
  | fuel + 1, _, _, _, h => ⟨h.1, fun j hj o ho => by
    obtain ⟨v, m, h1, h2⟩ := h.2 j hj o ho
    exact ⟨v, m, step_less h1, good_less h2⟩⟩
theorem good_look {i : Nat} {b : Option Nat} {fuel : Nat} {listed : Array Bool} {st : St} (h : Good E run ops hn0 fin fuel listed (withLook i b bs) st) : Good E run ops hn0 fin fuel listed bs st := by
  cases b with
  | none => exact h
  | some b => exact good_less h

/-! ### A value put into a slot that an operation does not look at -/
theorem eval_put {st : St} {d : Option Tmp} {v : V} {x : Operand} (h : ∀ t, d = some t → x ≠ .tmp t) : (st.put d v).eval x = st.eval x := by
  cases d with
  | none => rfl
  | some t =>
    cases x with
    | tmp u =>
      have : t ≠ u := fun e => h t rfl (by rw [e])
      exact get_set_ne _ this
    | _ => rfl
theorem evs_put {st : St} {o : Oper} {d : Option Tmp} {v : V} (h : ∀ t, d = some t → t ∉ o.looksAt ops) : ∀ x ∈ o.op.operands, (st.put d v).eval x = st.eval x := fun x hx =>
  eval_put fun t ht hxt => h t ht (by
    subst hxt
    exact List.mem_append_left _ (List.mem_filterMap.2 ⟨.tmp t, by simpa using hx, rfl⟩))
theorem wanted_put' {st : St} {o : Oper} {d : Option Tmp} {v : V} (h : ∀ t, d = some t → t ∉ o.looksAt ops) : wantedX ops (st.put d v) o = wantedX ops st o := by
  unfold wantedX
  cases hg : o.guard with
  | none => rfl
  | some g =>
    obtain ⟨j, want⟩ := g
    show (yieldedX ops (st.put d v) j == some want) = (yieldedX ops st j == some want)
    congr 1
    unfold yieldedX
    cases hd : (ops[j]?).bind (·.dst) with
    | none => rfl
    | some t =>
      have hne : ∀ u, d = some u → u ≠ t := fun u hu e => h u hu (by
        subst e
        exact List.mem_append_right _ (by rw [hg]; simp [hd]))
      simp only
      cases d with
      | none => rfl
      | some u =>
        have : (St.put st (some u) v).tm.get t = st.tm.get t := get_set_ne _ (hne u rfl)
        rw [this]
theorem float_put {st : St} {o : Oper} {j : Nat} {d : Option Tmp} {v : V} (h : ∀ t, d = some t → t ∉ o.looksAt ops) {m : Mem} (hm : ∀ b, looksAt st o = some (some b) → m.hp.get b = st.m.hp.get b) :
    floatX E ops hn0 (St.put ⟨st.tm, m, st.ds⟩ d v) j o = floatX E ops hn0 st j o := by
  have hev : ∀ x ∈ o.op.operands, (St.put ⟨st.tm, m, st.ds⟩ d v).eval x = st.eval x := fun x hx => (evs_put h x hx).trans (by cases x <;> rfl)
  have hw : wantedX ops (St.put ⟨st.tm, m, st.ds⟩ d v) o = wantedX ops st o := (wanted_put' h).trans rfl
  have hl : looksAt (St.put ⟨st.tm, m, st.ds⟩ d v) o = looksAt st o := looksAt_like hev
  have hp : pureO E (St.put ⟨st.tm, m, st.ds⟩ d v) o = pureO E st o := by
    refine pureO_like E hev fun b hb => ?_
    rw [hl] at hb
    rw [put_m]
    exact hm b hb
  have hmn : ∀ b, madeN E.P (St.put ⟨st.tm, m, st.ds⟩ d v) o b = madeN E.P st o b := fun b => made_like E.P hev b
  unfold floatX
  rw [hw, hl, hp]
  simp only [hmn]
theorem made_looks {P : Program} {st : St} {o : Oper} {b : Nat} {x : List C × TypeId × V} (h : madeN P st o b = some x) (st' : St) : looksAt st' o = none := by
  unfold madeN at h
  unfold looksAt
  split at h
  · rename_i hop; rw [hop]
  · rename_i hop; rw [hop]
  · rename_i hop; rw [hop]
  · cases h
theorem like_put {st : St} {o : Oper} {d : Option Tmp} {v : V} (h : ∀ t, d = some t → t ∉ o.looksAt ops) (m : Mem) : Like ⟨(st.put d v).tm, m, (st.put d v).ds⟩ ⟨st.tm, m, st.ds⟩ o :=
  ⟨fun x hx => by
    have := evs_put (st := st) (v := v) h x hx
    cases x with
    | tmp t => exact this
    | _ => rfl, rfl⟩
theorem step_put {st : St} {o : Oper} {j : Nat} {d : Option Tmp} {v : V} (h : ∀ t, d = some t → t ∉ o.looksAt ops) : stepD E run ops hn0 bs (st.put d v) j o = stepD E run ops hn0 bs st j o := by
  have hf : floatX E ops hn0 (st.put d v) j o = floatX E ops hn0 st j o := float_put (m := st.m) h fun _ _ => rfl
  unfold stepD
  rw [hf, put_m]
  have hh : heavyX E run hn0 bs (st.put d v) o = heavyX E run hn0 bs st o := by
    unfold heavyX
    rw [put_m, op_like (like_put h ⟨st.m.hp, st.m.hn, st.m.hn⟩)]
    have hs : ∀ m', spares hn0 bs (st.put d v) o m' = spares hn0 bs st o m' := fun m' => by
      unfold spares
      rw [put_m]
      rw [hits_like (evs_put h)]
    simp only [hs]
  rw [hh]

/-! ### What a step leaves as it was -/
theorem app_hits {m m' : Mem} {e : TypeId} {s n : Nat} {d : C} {new : List C} {v : V} {wb : Nat} (hh : (match some d with | some (.sl b _ _ _) => some b | some (.slf b _ _ _) => some b | _ => none) = some wb) (hv : appX m e s d n new = some (v, m')) : ∀ b, b ≠ wb → b < m.hn → m'.hp.get b = m.hp.get b := by
  intro b hb hlt
  unfold appX at hv
  cases hn0 : Nat.beq n 0 with
  | true =>
    simp only [hn0, cond_true] at hv
    split at hv
    · rename_i k' c
      cases hkc : Nat.ble k' c with
      | false => rw [hkc] at hv; cases hv
      | true => simp only [hkc, cond_true, Option.some.injEq, Prod.mk.injEq] at hv; obtain ⟨_, rfl⟩ := hv; rfl
    · simp only [Option.some.injEq, Prod.mk.injEq] at hv; obtain ⟨_, rfl⟩ := hv; rfl
    · simp only [Option.some.injEq, Prod.mk.injEq] at hv; obtain ⟨_, rfl⟩ := hv; rfl
    · cases hv
  | false =>
    simp only [hn0, cond_false] at hv
    have hpush : ∀ (q : Mem) (k : Blk), q.hn = m.hn → (q.push k).hp.get b = q.hp.get b := fun q k hq => get_ins_ne _ (by omega)
    split at hv
    · simp only [Option.some.injEq, Prod.mk.injEq] at hv; obtain ⟨_, rfl⟩ := hv; exact hpush m _ rfl
    · rename_i b1 o k' c
      simp only [Option.some.injEq] at hh; subst hh
      split at hv
      · cases hkc : Nat.ble (k' + n) c with
        | true =>
          simp only [hkc, cond_true] at hv
          split at hv
          · simp only [Option.map_eq_some_iff, Prod.mk.injEq] at hv
            obtain ⟨_, _, _, rfl⟩ := hv
            exact get_set_ne _ (Ne.symm hb)
          · cases hv
        | false => simp only [hkc, cond_false, Option.some.injEq, Prod.mk.injEq] at hv; obtain ⟨_, rfl⟩ := hv; exact hpush m _ rfl
      · cases hv
    · rename_i b1 k' s'
      simp only [Option.some.injEq] at hh; subst hh
      split at hv
      · cases hss : Nat.beq s s' && typeAt m b1 e with
        | false => rw [hss] at hv; cases hv
        | true =>
          simp only [hss, cond_true, Option.some.injEq, Prod.mk.injEq] at hv
          obtain ⟨_, rfl⟩ := hv
          rw [hpush (m.upd b1 .gone) _ rfl]
          exact get_set_ne _ (Ne.symm hb)
      · cases hv
    · cases hv
theorem hits_mem {P : Program} {st : St} {o : Oper} {v : V} {m' : Mem} {wb : Nat} (hh : hitsX st o = some wb) (hv : memX P st o = some (v, m')) : ∀ b, b ≠ wb → b < st.m.hn → m'.hp.get b = st.m.hp.get b := by
  intro b hb hlt
  obtain ⟨dst, op, type, pos, after, guard⟩ := o
  unfold hitsX at hh
  simp only at hh
  split at hh
  · rename_i t x y
    split at hh
    · rename_i b0 o' hx
      simp only [Option.some.injEq] at hh; subst hh
      unfold memX at hv
      simp only [hx] at hv
      split at hv
      · rename_i b1 o1 y' s h1 hy hs
        simp only [Option.some.injEq, C.ptr.injEq] at h1
        obtain ⟨rfl, rfl⟩ := h1
        cases hc : Nat.beq y'.cells.length s && oneCells y'.cells with
        | false => simp [hc] at hv
        | true =>
          simp only [hc, cond_true] at hv
          split at hv
          · simp only [Option.map_eq_some_iff, Prod.mk.injEq] at hv
            obtain ⟨l', _, _, rfl⟩ := hv
            exact get_set_ne _ (Ne.symm hb)
          · cases hv
      · cases hv
    · cases hh
  · rename_i args ts
    unfold memX at hv
    simp only at hv
    split at hv
    · rename_i d s t hargs ht
      rw [hargs] at hh
      simp only at hh
      split at hh
      · rename_i b0 o0 n0 c0 hd0
        simp only [Option.some.injEq] at hh; subst hh
        split at hv
        · rename_i b1 o' n cp y e hd hy hu
          rw [hd0] at hd
          simp only [Option.some.injEq, C.sl.injEq] at hd
          obtain ⟨rfl, rfl, rfl, rfl⟩ := hd
          split at hv
          · rename_i cs l e' hsz hrow hl
            cases hc : oneCells (cs.take n0) with
            | false => simp [hc] at hv
            | true =>
              simp only [hc, cond_true, Option.map_eq_some_iff, Prod.mk.injEq] at hv
              obtain ⟨l', _, _, rfl⟩ := hv
              exact get_set_ne _ (Ne.symm hb)
          · cases hv
        · cases hv
      · cases hh
    · cases hv
  · rename_i args ts
    unfold memX at hv
    simp only at hv
    split at hv
    · rename_i d s t t' hargs ht
      rw [hargs] at hh
      simp only at hh
      split at hv
      · rename_i cd cx e hd hy hu
        rw [hd] at hh
        split at hv
        · rename_i s0 by' n k hs hby hn hk
          split at hv
          · rename_i new z hnew hz
            cases hb' : Nat.beq t t' && Nat.ble (k + n) 1000000 && Nat.ble by' 1000000 && Nat.blt 0 s0 && Nat.beq z.length s0 with
            | false => simp [hb'] at hv
            | true =>
              simp only [hb', cond_true] at hv
              exact app_hits hh hv b hb hlt
          · cases hv
        · cases hv
      · cases hv
    · cases hv
  · cases hh
theorem hits_op {st : St} {o : Oper} {v : V} {m' : Mem} {wb : Nat} (hh : hitsX st o = some wb) (hv : opX E run st o = some (v, m')) : ∀ b, b ≠ wb → b < st.m.hn → m'.hp.get b = st.m.hp.get b := by
  unfold opX at hv
  split at hv
  · simp only [Option.some.injEq, Prod.mk.injEq] at hv; obtain ⟨_, rfl⟩ := hv; exact fun _ _ _ => rfl
  · unfold actX at hv
    split at hv
    · rename_i f args ts hop
      unfold hitsX at hh
      rw [hop] at hh
      simp at hh
    · exact hits_mem hh hv
theorem heavy_frm {W : Base} (hR : RunOk E W run) {st : St} {o : Oper} {v : V} {m : Mem} (h : heavyX E run hn0 bs st o = some (v, m)) : Frm st.m m := by
  unfold heavyX at h
  split at h
  · rename_i u m1 hop
    cases hs : spares hn0 bs st o m1 with
    | false => rw [hs] at h; cases h
    | true =>
      rw [hs] at h
      simp only [cond_true, Option.some.injEq, Prod.mk.injEq] at h
      obtain ⟨rfl, rfl⟩ := h
      have hf := op_frm hR hop
      refine ⟨hf.hn, ?_, fun b h1 h2 => ?_⟩
      · cases hb : Nat.ble st.m.wr m1.wr with
        | true => simp
        | false => have := ble_f hb; simp; omega
      · refine hf.get b ?_ h2
        simp only at h1
        cases hb : Nat.ble st.m.wr m1.wr with
        | true => rw [hb] at h1; have := ble_t hb; simp at h1; omega
        | false => rw [hb] at h1; simpa using h1
  · cases h
theorem step_frm {W : Base} (hR : RunOk E W run) {st : St} {j : Nat} {o : Oper} {v : V} {m : Mem} (h : stepD E run ops hn0 bs st j o = some (v, m)) : Frm st.m m := by
  unfold stepD at h
  split at h
  · simp only [Option.some.injEq, Prod.mk.injEq] at h; obtain ⟨_, rfl⟩ := h; exact .refl _
  · exact heavy_frm hR h
/-- The look i sees what it saw, behind a step that does not wait for it. -/
theorem step_spares {W : Base} (hR : RunOk E W run) {i b : Nat} {st : St} {j : Nat} {o : Oper} {v : V} {m : Mem} (h : stepD E run ops hn0 ((i, b) :: bs) st j o = some (v, m)) (hb : b < hn0) (hn : hn0 ≤ st.m.hn) (hw : waitsFor o i = false) :
    m.hp.get b = st.m.hp.get b := by
  unfold stepD at h
  split at h
  · simp only [Option.some.injEq, Prod.mk.injEq] at h; obtain ⟨_, rfl⟩ := h; rfl
  · unfold heavyX at h
    split at h
    · rename_i u m1 hop
      cases hs : spares hn0 ((i, b) :: bs) st o m1 with
      | false => rw [hs] at h; cases h
      | true =>
        rw [hs] at h
        simp only [cond_true, Option.some.injEq, Prod.mk.injEq] at h
        obtain ⟨rfl, rfl⟩ := h
        simp only
        unfold spares at hs
        cases hbl : Nat.ble hn0 m1.wr with
        | true =>
          have := ble_t hbl
          exact (op_frm hR hop).get b (by omega) (by simp only; omega)
        | false =>
          rw [hbl] at hs
          simp only [Bool.false_or, List.all_cons, Bool.and_eq_true, hw, Bool.or_eq_true] at hs
          rcases hs.1 with h1 | h1
          case inr => exact (sameB_eq h1).symm
          split at h1
          · rename_i wb hwb
            have hne : b ≠ wb := fun e => by subst e; simp at h1
            exact hits_op (E := E) (run := run) (st := ⟨st.tm, ⟨st.m.hp, st.m.hn, st.m.hn⟩, st.ds⟩) (by rw [← hwb]; exact hits_like fun x _ => by cases x <;> rfl) hop b hne (Nat.lt_of_lt_of_le hb hn)
          · cases h1
    · cases h

theorem float_look {st : St} {i : Nat} {o : Oper} {v : V} {b : Option Nat} (h : floatX E ops hn0 st i o = some (v, b)) :
    (∀ q, looksAt st o = some (some q) → wantedX ops st o = true → b = some q ∨ isAlloc o = true) ∧ ∀ q, b = some q → q < hn0 := by
  unfold floatX at h
  cases hw : wantedX ops st o with
  | false =>
    rw [hw] at h
    simp only [cond_false, Option.some.injEq, Prod.mk.injEq] at h
    obtain ⟨_, rfl⟩ := h
    exact ⟨fun q _ hc => (by cases hc), fun q hq => (by cases hq)⟩
  | true =>
    rw [hw] at h
    simp only [cond_true] at h
    cases ha : isAlloc o with
    | true =>
      rw [ha] at h
      simp only [cond_true, Option.some.injEq, Prod.mk.injEq] at h
      obtain ⟨_, rfl⟩ := h
      exact ⟨fun q _ _ => .inr rfl, fun q hq => (by cases hq)⟩
    | false =>
      rw [ha] at h
      simp only [cond_false] at h
      split at h
      · split at h
        · rename_i l' t' v' hmn
          cases hq : eqL eqD l' _ && Nat.beq t' _ with
          | false => rw [hq] at h; cases h
          | true =>
            rw [hq] at h
            simp only [cond_true, Option.some.injEq, Prod.mk.injEq] at h
            obtain ⟨_, rfl⟩ := h
            exact ⟨fun q hq => (by rw [made_looks hmn st] at hq; cases hq), fun q hq => (by cases hq)⟩
        · cases h
      split at h
      · rename_i hl
        simp only [Option.map_eq_some_iff, Prod.mk.injEq] at h
        obtain ⟨_, _, _, rfl⟩ := h
        exact ⟨fun q hq => (by rw [hl] at hq; cases hq), fun q hq => (by cases hq)⟩
      · rename_i q0 hl
        cases hb : Nat.blt q0 hn0 with
        | false => rw [hb] at h; cases h
        | true =>
          rw [hb] at h
          simp only [cond_true, Option.map_eq_some_iff, Prod.mk.injEq] at h
          obtain ⟨_, _, _, rfl⟩ := h
          exact ⟨fun q hq _ => .inl (by rw [hl] at hq; cases hq; rfl), fun q hq => (by cases hq; exact ble_t hb)⟩
      · cases h

theorem put_put {st : St} {m : Mem} {d d' : Option Tmp} {v v' : V} (h : ∀ t, d = some t → d' ≠ some t) :
    St.put ⟨(st.put d v).tm, m, (st.put d v).ds⟩ d' v' = (St.put ⟨st.tm, m, st.ds⟩ d' v').put d v := by
  cases d with
  | none => cases d' <;> rfl
  | some t =>
    cases d' with
    | none => rfl
    | some u =>
      have hne : t ≠ u := fun e => h t rfl (by rw [e])
      simp only [St.put]
      rw [set_comm _ hne]

theorem waits_none {o : Oper} {i : Nat} (h : ∀ e ∈ o.after, Region.binds .any e = true → e.on ≠ i) : waitsFor o i = false := by
  unfold waitsFor
  rw [Array.any_eq_false]
  intro k hk hc
  simp only [Bool.and_eq_true] at hc
  exact h _ (Array.getElem_mem hk) hc.2 (beq_t hc.1)

/-- An operation that floats may be taken first. -/
theorem good_take {W : Base} (hR : RunOk E W run) {i : Nat} {oi : Oper} {v : V} {b : Option Nat} (hi : ops[i]? = some oi) :
    ∀ (fuel : Nat) (listed : Array Bool) (bs : List (Nat × Nat)) (st : St), hn0 ≤ st.m.hn → floatX E ops hn0 st i oi = some (v, b) →
      (∀ j oj, ops[j]? = some oj → j ≠ i → listed.getD j true = false → (∀ e ∈ oj.after, Region.binds .any e = true → e.on ≠ i) → oi.apart ops oj = true) →
      i ∈ Region.ready .any ops listed → Good E run ops hn0 fin fuel (listed.setIfInBounds i true) (withLook i b bs) (st.put oi.dst v) → Good E run ops hn0 fin (fuel + 1) listed bs st := by
  intro fuel
  induction fuel with
  | zero =>
    intro listed bs st hn hf hfree hr H
    refine ⟨fun h0 => (by rw [h0] at hr; cases hr), fun j hj o ho => ?_⟩
    by_cases hji : j = i
    · subst hji
      rw [hi] at ho; cases ho
      exact ⟨v, st.m, by unfold stepD; rw [hf], good_look H⟩
    · have h1 := ready_mono hj hji
      rw [H.1] at h1
      cases h1
  | succ fuel ih =>
    intro listed bs st hn hf hfree hr H
    refine ⟨fun h0 => (by rw [h0] at hr; cases hr), fun j hj o ho => ?_⟩
    by_cases hji : j = i
    · subst hji
      rw [hi] at ho; cases ho
      exact ⟨v, st.m, by unfold stepD; rw [hf], good_look H⟩
    · obtain ⟨vj, mj, hs, hg⟩ := H.2 j (ready_mono hj hji) o ho
      obtain ⟨hjun, oj, hoj, hall⟩ := mem_ready.1 hj
      rw [ho] at hoj; cases hoj
      have hnot : ∀ e ∈ o.after, Region.binds .any e = true → e.on ≠ i := fun e he hb heq => by
        have h1 := hall e he hb
        have h0 := (mem_ready.1 hr).1
        rw [heq] at h1
        rcases Nat.lt_or_ge i listed.size with h' | h'
        · simp [h'] at h0 h1; rw [h0] at h1; cases h1
        · simp [Array.getElem?_eq_none h'] at h1
      obtain ⟨a1, a2, a3⟩ := Oper.apart_spec (hfree j o ho hji hjun hnot)
      rw [step_put a1] at hs
      have hsb : stepD E run ops hn0 bs st j o = some (vj, mj) := by
        cases b with
        | none => exact hs
        | some q => exact step_less hs
      have hfr := step_frm hR hs
      refine ⟨vj, mj, hsb, ?_⟩
      have hfl := float_look hf
      have hlook : wantedX ops st oi = true → isAlloc oi = false → ∀ q, looksAt st oi = some (some q) → mj.hp.get q = st.m.hp.get q := fun hw ha q hq => by
        rcases hfl.1 q hq hw with hb | hb
        · subst hb
          exact step_spares hR hs (hfl.2 q rfl) hn (waits_none hnot)
        · rw [ha] at hb; cases hb
      have hf' : floatX E ops hn0 (St.put ⟨st.tm, mj, st.ds⟩ o.dst vj) i oi = some (v, b) := by
        cases hw : wantedX ops st oi with
        | false =>
          have hw' : wantedX ops (St.put ⟨st.tm, mj, st.ds⟩ o.dst vj) oi = false := (wanted_put' a3).trans hw
          unfold floatX at hf ⊢
          rw [hw] at hf; rw [hw']; exact hf
        | true =>
          have hw' : wantedX ops (St.put ⟨st.tm, mj, st.ds⟩ o.dst vj) oi = true := (wanted_put' a3).trans hw
          cases ha : isAlloc oi with
          | true =>
            unfold floatX at hf ⊢
            rw [hw, ha] at hf; rw [hw', ha]; exact hf
          | false => rw [float_put a3 (hlook hw ha)]; exact hf
      refine ih (listed.setIfInBounds j true) bs _ (by rw [put_m]; exact Nat.le_trans hn hfr.hn) hf' ?_ (ready_mono hr (Ne.symm hji)) ?_
      · intro k ok hk hki hun hno
        refine hfree k ok hk hki ?_ hno
        by_cases hjk : j = k
        · subst hjk; exact hjun
        · rw [getD_set_ne true hjk] at hun; exact hun
      · rw [Array.setIfInBounds_comm _ _ hji]
        rw [put_put a2] at hg
        exact hg

/-- The runner's own order shows that every order is as good. -/
theorem draw_good {W : Base} (hR : RunOk E W run) : ∀ (fuel : Nat) (listed : Array Bool) (bs : List (Nat × Nat)) (st : St), hn0 ≤ st.m.hn → drawX E run ops hn0 fuel listed bs st = some fin → Good E run ops hn0 fin fuel listed bs st
  | 0, listed, bs, st, hn, h => by
    unfold drawX at h
    split at h
    · rename_i hr; simp only [Option.some.injEq] at h; exact ⟨hr, h⟩
    · cases h
  | fuel + 1, listed, bs, st, hn, h => by
    unfold drawX at h
    split at h
    · rename_i hr
      simp only [Option.some.injEq] at h
      exact ⟨fun _ => h, fun j hj => by rw [hr] at hj; cases hj⟩
    · rename_i r0 rs hr
      split at h
      · rename_i i hfind
        have htk := List.find?_some hfind
        have hmem : i ∈ Region.ready .any ops listed := by rw [hr]; exact List.mem_of_find?_eq_some hfind
        split at h
        · rename_i o ho
          unfold takes at htk
          rw [ho] at htk
          simp only [Bool.and_eq_true] at htk
          split at h
          · rename_i v b hf
            exact good_take hR ho fuel listed bs st hn hf (Region.free_spec ho htk.2) hmem (draw_good hR fuel _ _ _ (by rw [put_m]; exact hn) h)
          · cases h
        · cases h
      · split at h
        · split at h
          · rename_i o ho
            split at h
            · rename_i v m hst
              refine ⟨fun h0 => (by rw [hr] at h0; cases h0), fun j hj o' ho' => ?_⟩
              rw [hr] at hj
              simp only [List.mem_singleton] at hj
              subst hj
              rw [ho] at ho'; cases ho'
              have hs : stepD E run ops hn0 bs st j o = some (v, m) := hst
              have hfr := step_frm hR hs
              exact ⟨v, m, hs, draw_good hR fuel _ _ _ (by rw [put_m]; exact Nat.le_trans hn hfr.hn) h⟩
            · cases h
          · cases h
        · cases h
theorem land_zero {a b t : Nat} (h : Nat.land a b = 0) (ha : a.testBit t = true) (hb : b.testBit t = true) : False := by
  have h1 : (a &&& b).testBit t = true := by rw [Nat.testBit_and, ha, hb]; rfl
  have h2 : a &&& b = 0 := h
  rw [h2] at h1
  simp at h1
theorem bits_mem : ∀ {l : List Nat} {t : Nat}, (bitsL l).testBit t = true ↔ t ∈ l
  | [], t => by simp [bitsL]
  | u :: l, t => by
    have e : bitsL (u :: l) = 2 ^ u ||| bitsL l := rfl
    rw [e, Nat.testBit_or, Bool.or_eq_true, bits_mem, Nat.testBit_two_pow]
    simp [eq_comm]
theorem waits_mem : ∀ {l : List Edge} {i : Nat}, i ∈ waitsL l ↔ ∃ e ∈ l, Region.binds .any e = true ∧ e.on = i
  | [], i => by simp [waitsL]
  | e :: l, i => by
    have ih := waits_mem (l := l) (i := i)
    simp only [waitsL]
    cases hb : Region.binds .any e with
    | true =>
      simp only [cond_true, List.mem_cons]
      constructor
      · rintro (h | h)
        · exact ⟨e, .inl rfl, hb, h.symm⟩
        · obtain ⟨e', h1, h2, h3⟩ := ih.1 h
          exact ⟨e', .inr h1, h2, h3⟩
      · rintro ⟨e', h1 | h1, h2, h3⟩
        · subst h1; exact .inl h3.symm
        · exact .inr (ih.2 ⟨e', h1, h2, h3⟩)
    | false =>
      simp only [cond_false, List.mem_cons]
      constructor
      · intro h
        obtain ⟨e', h1, h2, h3⟩ := ih.1 h
        exact ⟨e', .inr h1, h2, h3⟩
      · rintro ⟨e', h1 | h1, h2, h3⟩
        · subst h1; rw [hb] at h2; cases h2
        · exact ih.2 ⟨e', h1, h2, h3⟩
theorem bitN_eq {m i : Nat} : bitN m i = m.testBit i := by
  unfold bitN
  rw [Nat.testBit_eq_decide_div_mod_eq]
  have e : Nat.mod (Nat.shiftRight m i) 2 = m / 2 ^ i % 2 := by
    show (m >>> i) % 2 = _
    rw [Nat.shiftRight_eq_div_pow]
  rw [e]
  cases hb : Nat.beq (m / 2 ^ i % 2) 1 with
  | true => simp [beq_t hb]
  | false => simp [beq_f hb]
theorem allPair_spec {a : Msk} : ∀ {l : List Msk}, allPair a l = true → ∀ b ∈ l, b.i ≠ a.i → b.w.testBit a.i = true ∨ (Nat.land a.d (Nat.lor b.r b.d) = 0 ∧ Nat.land b.d a.r = 0)
  | [], _, b, hb, _ => by cases hb
  | c :: l, h, b, hb, hne => by
    simp only [allPair] at h
    cases hi : Nat.beq c.i a.i with
    | true =>
      rw [hi] at h
      simp only [cond_true] at h
      rcases List.mem_cons.1 hb with rfl | hb
      · exact absurd (beq_t hi) hne
      · exact allPair_spec h b hb hne
    | false =>
      rw [hi] at h
      simp only [cond_false] at h
      rw [bitN_eq] at h
      cases hw : c.w.testBit a.i with
      | true =>
        rw [hw] at h
        simp only [cond_true] at h
        rcases List.mem_cons.1 hb with rfl | hb
        · exact .inl hw
        · exact allPair_spec h b hb hne
      | false =>
        rw [hw] at h
        simp only [cond_false] at h
        cases h1 : Nat.beq (Nat.land a.d (Nat.lor c.r c.d)) 0 with
        | false => rw [h1] at h; cases h
        | true =>
          rw [h1] at h
          simp only [cond_true] at h
          cases h2 : Nat.beq (Nat.land c.d a.r) 0 with
          | false => rw [h2] at h; cases h
          | true =>
            rw [h2] at h
            simp only [cond_true] at h
            rcases List.mem_cons.1 hb with rfl | hb
            · exact .inr ⟨beq_t h1, beq_t h2⟩
            · exact allPair_spec h b hb hne
theorem allWait_spec {L : Nat} {a : Msk} : ∀ {l : List Msk}, allWait L a l = true → ∀ b ∈ l, b.i ≠ a.i → readyM L b = false
  | [], _, b, hb, _ => by cases hb
  | c :: l, h, b, hb, hne => by
    simp only [allWait] at h
    cases hi : Nat.beq c.i a.i with
    | true =>
      rw [hi] at h
      simp only [cond_true] at h
      rcases List.mem_cons.1 hb with rfl | hb
      · exact absurd (beq_t hi) hne
      · exact allWait_spec h b hb hne
    | false =>
      rw [hi] at h
      simp only [cond_false] at h
      cases hr : readyM L c with
      | true => rw [hr] at h; cases h
      | false =>
        rw [hr] at h
        simp only [cond_false] at h
        rcases List.mem_cons.1 hb with rfl | hb
        · exact hr
        · exact allWait_spec h b hb hne
theorem findLight_spec {L : Nat} : ∀ {l : List Msk} {a : Msk}, findLight L l = some a → a ∈ l ∧ readyM L a = true
  | [], a, h => by cases h
  | c :: l, a, h => by
    simp only [findLight] at h
    cases hs : c.s with
    | false => rw [hs] at h; simp only [cond_false] at h; obtain ⟨h1, h2⟩ := findLight_spec h; exact ⟨List.mem_cons_of_mem _ h1, h2⟩
    | true =>
      rw [hs] at h
      simp only [cond_true] at h
      cases hr : readyM L c with
      | false => rw [hr] at h; simp only [cond_false] at h; obtain ⟨h1, h2⟩ := findLight_spec h; exact ⟨List.mem_cons_of_mem _ h1, h2⟩
      | true => rw [hr] at h; simp only [cond_true, Option.some.injEq] at h; subst h; exact ⟨by simp, hr⟩
theorem findSemi_spec {L : Nat} : ∀ {l : List Msk} {a : Msk}, findSemi L l = some a → a ∈ l ∧ readyM L a = true
  | [], a, h => by cases h
  | c :: l, a, h => by
    simp only [findSemi] at h
    cases hs : c.s2 with
    | false => rw [hs] at h; simp only [cond_false] at h; obtain ⟨h1, h2⟩ := findSemi_spec h; exact ⟨List.mem_cons_of_mem _ h1, h2⟩
    | true =>
      rw [hs] at h
      simp only [cond_true] at h
      cases hr : readyM L c with
      | false => rw [hr] at h; simp only [cond_false] at h; obtain ⟨h1, h2⟩ := findSemi_spec h; exact ⟨List.mem_cons_of_mem _ h1, h2⟩
      | true => rw [hr] at h; simp only [cond_true, Option.some.injEq] at h; subst h; exact ⟨by simp, hr⟩
theorem findReady_spec {L : Nat} : ∀ {l : List Msk} {a : Msk}, findReady L l = some a → a ∈ l ∧ readyM L a = true
  | [], a, h => by cases h
  | c :: l, a, h => by
    simp only [findReady] at h
    cases hr : readyM L c with
    | false => rw [hr] at h; simp only [cond_false] at h; obtain ⟨h1, h2⟩ := findReady_spec h; exact ⟨List.mem_cons_of_mem _ h1, h2⟩
    | true => rw [hr] at h; simp only [cond_true, Option.some.injEq] at h; subst h; exact ⟨by simp, hr⟩
theorem rm_mem {i : Nat} : ∀ {l : List Msk} {b : Msk}, b ∈ rmM i l ↔ b ∈ l ∧ b.i ≠ i
  | [], b => by simp [rmM]
  | c :: l, b => by
    have ih := rm_mem (i := i) (l := l) (b := b)
    simp only [rmM]
    cases hi : Nat.beq c.i i with
    | true =>
      simp only [cond_true]
      rw [ih, List.mem_cons]
      constructor
      · rintro ⟨h1, h2⟩; exact ⟨.inr h1, h2⟩
      · rintro ⟨h1 | h1, h2⟩
        · subst h1; exact absurd (beq_t hi) h2
        · exact ⟨h1, h2⟩
    | false =>
      simp only [cond_false]
      rw [List.mem_cons, ih, List.mem_cons]
      constructor
      · rintro (h1 | ⟨h1, h2⟩)
        · subst h1; exact ⟨.inl rfl, beq_f hi⟩
        · exact ⟨.inr h1, h2⟩
      · rintro ⟨h1 | h1, h2⟩
        · exact .inl h1
        · exact .inr ⟨h1, h2⟩
theorem rm_le {i : Nat} : ∀ {l : List Msk}, (rmM i l).length ≤ l.length
  | [] => Nat.le_refl _
  | c :: l => by
    have ih := rm_le (i := i) (l := l)
    simp only [rmM]
    cases Nat.beq c.i i with
    | true => simp only [cond_true, List.length_cons]; omega
    | false => simp only [cond_false, List.length_cons]; omega
theorem rm_lt {i : Nat} : ∀ {l : List Msk} {a : Msk}, a ∈ l → a.i = i → (rmM i l).length < l.length
  | [], a, h, _ => by cases h
  | c :: l, a, h, hi => by
    have hle := rm_le (i := i) (l := l)
    simp only [rmM]
    cases hb : Nat.beq c.i i with
    | true => simp only [cond_true, List.length_cons]; omega
    | false =>
      simp only [cond_false, List.length_cons]
      rcases List.mem_cons.1 h with rfl | h
      · exact absurd hi (beq_f hb)
      · have := rm_lt h hi; omega
theorem apart_of {ops : Array Oper} {i j : Nat} {x y : Oper} (h1 : Nat.land (mskOf ops i x).d (Nat.lor (mskOf ops j y).r (mskOf ops j y).d) = 0) (h2 : Nat.land (mskOf ops j y).d (mskOf ops i x).r = 0) : x.apart ops y = true := by
  have k1 : ∀ d, x.dst = some d → d ∉ y.looksAt ops ∧ y.dst ≠ some d := fun d hd => by
    have hx : (mskOf ops i x).d.testBit d = true := bits_mem.2 (by rw [hd]; simp)
    refine ⟨fun hm => land_zero h1 hx ?_, fun hy => land_zero h1 hx ?_⟩
    · show ((mskOf ops j y).r ||| (mskOf ops j y).d).testBit d = true
      rw [Nat.testBit_or, Bool.or_eq_true]
      exact .inl (bits_mem.2 hm)
    · show ((mskOf ops j y).r ||| (mskOf ops j y).d).testBit d = true
      rw [Nat.testBit_or, Bool.or_eq_true]
      exact .inr (bits_mem.2 (by rw [hy]; simp))
  have k2 : ∀ d, y.dst = some d → d ∉ x.looksAt ops := fun d hd hm => land_zero h2 (bits_mem.2 (by rw [hd]; simp)) (bits_mem.2 hm)
  unfold Oper.apart
  rw [Bool.and_eq_true]
  constructor
  · cases hx : x.dst with
    | none => rfl
    | some d =>
      obtain ⟨q1, q2⟩ := k1 d hx
      simp [q1, q2]
  · cases hy : y.dst with
    | none => rfl
    | some d => simp [k2 d hy]
/-- What is left, and what is listed. -/
structure Pre (ops : Array Oper) (L : Nat) (R : List Msk) (listed : Array Bool) : Prop where
  sz : listed.size = ops.size
  mem : ∀ a ∈ R, ops[a.i]? = some a.o ∧ a = mskOf ops a.i a.o ∧ listed.getD a.i true = false
  all : ∀ j, listed.getD j true = false → ∃ a ∈ R, a.i = j
  bit : ∀ j, L.testBit j = listed.getD j false
theorem masks_mem {ops : Array Oper} : ∀ {l : List Oper} {k : Nat} {a : Msk}, a ∈ masksX ops l k → ∃ j o, l[j]? = some o ∧ a = mskOf ops (k + j) o
  | [], k, a, h => by cases h
  | c :: l, k, a, h => by
    simp only [masksX] at h
    rcases List.mem_cons.1 h with rfl | h
    · exact ⟨0, c, rfl, rfl⟩
    · obtain ⟨j, o, h1, h2⟩ := masks_mem h
      exact ⟨j + 1, o, by simpa using h1, by rw [h2]; congr 1; omega⟩
theorem masks_get {ops : Array Oper} : ∀ {l : List Oper} {k j : Nat} {o : Oper}, l[j]? = some o → mskOf ops (k + j) o ∈ masksX ops l k
  | [], k, j, o, h => by simp at h
  | c :: l, k, 0, o, h => by simp at h; subst h; simp [masksX]
  | c :: l, k, j + 1, o, h => by
    simp only [masksX]
    have := masks_get (ops := ops) (k := Nat.succ k) (j := j) (show l[j]? = some o by simpa using h)
    rw [show Nat.succ k + j = k + (j + 1) by omega] at this
    exact List.mem_cons_of_mem _ this
theorem Pre.zero (ops : Array Oper) : Pre ops 0 (masksX ops ops.toList 0) (Array.replicate ops.size false) := by
  refine ⟨by simp, fun a ha => ?_, fun j hj => ?_, fun j => ?_⟩
  · obtain ⟨j, o, h1, rfl⟩ := masks_mem ha
    have ho : ops[j]? = some o := by simpa using h1
    have hlt := (Array.getElem?_eq_some_iff.1 ho).1
    simp only [Nat.zero_add]
    exact ⟨ho, rfl, by simp [mskOf, hlt]⟩
  · have hlt : j < ops.size := by
      rcases Nat.lt_or_ge j ops.size with h | h
      · exact h
      · simp [Nat.not_lt.2 h] at hj
    refine ⟨mskOf ops (0 + j) ops[j], masks_get (by simp [hlt]), by simp [mskOf]⟩
  · rw [Nat.zero_testBit]
    by_cases h : j < ops.size <;> simp [h]
theorem Pre.take {ops : Array Oper} {L : Nat} {R : List Msk} {listed : Array Bool} (h : Pre ops L R listed) {a : Msk} (ha : a ∈ R) : Pre ops (Nat.lor L (Nat.pow 2 a.i)) (rmM a.i R) (listed.setIfInBounds a.i true) := by
  obtain ⟨h1, h2, h3⟩ := h.mem a ha
  have hlt : a.i < listed.size := by rw [h.sz]; exact (Array.getElem?_eq_some_iff.1 h1).1
  refine ⟨by simp [h.sz], fun b hb => ?_, fun j hj => ?_, fun j => ?_⟩
  · obtain ⟨q1, q2⟩ := rm_mem.1 hb
    obtain ⟨k1, k2, k3⟩ := h.mem b q1
    exact ⟨k1, k2, by rw [getD_set_ne true (Ne.symm q2)]; exact k3⟩
  · by_cases hja : a.i = j
    · subst hja; simp [hlt] at hj
    · rw [getD_set_ne true hja] at hj
      obtain ⟨b, hb, hbj⟩ := h.all j hj
      exact ⟨b, rm_mem.2 ⟨hb, by omega⟩, hbj⟩
  · show (L ||| 2 ^ a.i).testBit j = _
    rw [Nat.testBit_or, h.bit, Nat.testBit_two_pow]
    by_cases hja : a.i = j
    · subst hja; simp [hlt]
    · rw [getD_set_ne false hja]; simp [hja]
theorem Pre.ready {ops : Array Oper} {L : Nat} {R : List Msk} {listed : Array Bool} (h : Pre ops L R listed) {a : Msk} (ha : a ∈ R) (hr : readyM L a = true) : a.i ∈ Region.ready .any ops listed := by
  obtain ⟨h1, h2, h3⟩ := h.mem a ha
  refine mem_ready.2 ⟨h3, a.o, h1, fun e he hb => ?_⟩
  have hw : a.w.testBit e.on = true := by
    rw [h2]
    exact bits_mem.2 (waits_mem.2 ⟨e, by simpa using he, hb, rfl⟩)
  have h4 : a.w &&& L = a.w := beq_t hr
  rw [← h.bit]
  rw [← h4, Nat.testBit_and, Bool.and_eq_true] at hw
  exact hw.2
theorem Pre.wait {ops : Array Oper} {L : Nat} {R : List Msk} {listed : Array Bool} (h : Pre ops L R listed) {a : Msk} (ha : a ∈ R) (hr : a.i ∈ Region.ready .any ops listed) : readyM L a = true := by
  obtain ⟨h1, h2, h3⟩ := h.mem a ha
  obtain ⟨_, o, g2, g3⟩ := mem_ready.1 hr
  rw [h1] at g2; cases g2
  have h4 : a.w &&& L = a.w := by
    apply Nat.eq_of_testBit_eq
    intro t
    rw [Nat.testBit_and]
    cases hw : a.w.testBit t with
    | false => rfl
    | true =>
      rw [h2] at hw
      obtain ⟨e, e1, e2, e3⟩ := waits_mem.1 (bits_mem.1 hw)
      rw [h.bit, ← e3, g3 e (by simpa using e1) e2]
      rfl
  unfold readyM
  show Nat.beq (a.w &&& L) a.w = true
  rw [h4]
  exact Nat.beq_refl _
/-- The planned order shows it, too. -/
theorem drawP_good {W : Base} (hR : RunOk E W run) : ∀ (n L : Nat) (R : List Msk) (listed : Array Bool) (bs : List (Nat × Nat)) (st : St) (fuel : Nat), R.length ≤ fuel → Pre ops L R listed → hn0 ≤ st.m.hn → drawP E run ops hn0 (planM n L R) bs st = some fin → Good E run ops hn0 fin fuel listed bs st
  | n, L, [], listed, bs, st, fuel, hfu, hL, hn, h => by
    have hnil : Region.ready .any ops listed = [] := by
      cases hr : Region.ready .any ops listed with
      | nil => rfl
      | cons j l =>
        have hj : j ∈ Region.ready .any ops listed := by rw [hr]; simp
        obtain ⟨a, ha, _⟩ := hL.all j (mem_ready.1 hj).1
        cases ha
    have hst : st = fin := by
      cases n <;> simpa [planM, drawP] using h
    cases fuel with
    | zero => exact ⟨hnil, hst⟩
    | succ fuel => exact ⟨fun _ => hst, fun j hj => by rw [hnil] at hj; cases hj⟩
  | 0, L, b :: l, listed, bs, st, fuel, hfu, hL, hn, h => by simp [planM, drawP] at h
  | n + 1, L, b :: l, listed, bs, st, fuel, hfu, hL, hn, h => by
    simp only [planM] at h
    split at h
    · rename_i a hfind
      have hsel : a ∈ b :: l ∧ readyM L a = true := by
        split at hfind
        · rename_i a' h'
          cases hfind
          exact findLight_spec h'
        · split at hfind
          · rename_i a' h'
            cases hfind
            exact findSemi_spec h'
          · exact findReady_spec hfind
      obtain ⟨ha, hra⟩ := hsel
      obtain ⟨ho, hmsk, hun⟩ := hL.mem a ha
      have hr := hL.ready ha hra
      have hL' := hL.take ha
      have hlen := rm_lt ha rfl
      obtain ⟨fuel, rfl⟩ : ∃ q, fuel = q + 1 := ⟨fuel - 1, by simp at hfu; omega⟩
      have hfu' : (rmM a.i (b :: l)).length ≤ fuel := by omega
      have heavy : ∀ v m, allWait L a (b :: l) = true → stepD E run ops hn0 bs st a.i a.o = some (v, m) → drawP E run ops hn0 (planM n (Nat.lor L (Nat.pow 2 a.i)) (rmM a.i (b :: l))) bs (St.put ⟨st.tm, m, st.ds⟩ a.o.dst v) = some fin → Good E run ops hn0 fin (fuel + 1) listed bs st := fun v m h1 hs h2 => by
        refine ⟨fun h0 => (by rw [h0] at hr; cases hr), fun j hj o' ho' => ?_⟩
        have hjk : j = a.i := by
          by_cases hjk : j = a.i
          · exact hjk
          · obtain ⟨c, hc, rfl⟩ := hL.all j (mem_ready.1 hj).1
            have h3 := allWait_spec h1 c hc hjk
            rw [hL.wait hc hj] at h3
            cases h3
        subst hjk
        rw [ho] at ho'; cases ho'
        have hfr := step_frm hR hs
        exact ⟨v, m, hs, drawP_good hR n _ _ _ _ _ fuel hfu' hL' (by rw [put_m]; exact Nat.le_trans hn hfr.hn) h2⟩
      simp only [drawP] at h
      split at h
      · rename_i v bb hf
        cases h1 : allPair a (b :: l) with
        | true =>
          rw [h1] at h
          simp only [cond_true] at h
          refine good_take hR ho fuel listed bs st hn hf (fun j oj hj hne hunj hno => ?_) hr (drawP_good hR n _ _ _ _ _ fuel hfu' hL' (by rw [put_m]; exact hn) h)
          obtain ⟨c, hc, rfl⟩ := hL.all j hunj
          obtain ⟨c1, c2, _⟩ := hL.mem c hc
          rw [hj] at c1; cases c1
          rcases allPair_spec h1 c hc hne with h2 | ⟨h2, h3⟩
          · rw [c2] at h2
            obtain ⟨e, e1, e2, e3⟩ := waits_mem.1 (bits_mem.1 h2)
            exact absurd e3 (hno e (by simpa using e1) e2)
          · rw [hmsk, c2] at h2 h3
            exact apart_of h2 h3
        | false =>
          rw [h1] at h
          simp only [cond_false] at h
          cases h2 : allWait L a (b :: l) with
          | false => rw [h2] at h; cases h
          | true =>
            rw [h2] at h
            simp only [cond_true] at h
            exact heavy v st.m h2 (by unfold stepD; rw [hf]) h
      · rename_i hf
        cases h2 : allWait L a (b :: l) with
        | false => rw [h2] at h; cases h
        | true =>
          rw [h2] at h
          simp only [cond_true] at h
          split at h
          · rename_i v m hh
            exact heavy v m h2 (by unfold stepD; rw [hf]; exact hh) h
          · cases h
    · simp [drawP] at h
end
end Go.Ry
namespace Go.Ry
open Go Go.RowKit

theorem MemRel.wr {W : Base} {ρ : Loc'} {m : Mem} {w : World} (h : MemRel W ρ m w) (k : Nat) : MemRel W ρ ⟨m.hp, m.hn, k⟩ w := ⟨h.below, h.dom, h.inj, h.size, h.full⟩
theorem StRel.wr {W : Base} {ρ : Loc'} {st : St} {a : Act} {w : World} (h : StRel W ρ st a w) (k : Nat) : StRel W ρ ⟨st.tm, ⟨st.m.hp, st.m.hn, k⟩, st.ds⟩ a w := ⟨h.some, h.none, h.defers, h.mem.wr k⟩

section
variable {E : Env} {run : Runs} {ops : Array Oper} {hn0 : Nat} {bs : List (Nat × Nat)} {fin : St} {W : Base}

theorem rank_lt {i j : Nat} {o : Oper} (hij : i < j) (ho : ops[i]? = some o) (ha : isAlloc o = true) : rank ops i < rank ops j := by
  unfold rank
  have hi : i < ops.toList.length := by have := (Array.getElem?_eq_some_iff.1 ho).1; simpa using this
  have ho' : ops.toList[i]? = some o := by simpa using ho
  have e : ops.toList.take (i + 1) = ops.toList.take i ++ [o] := by
    rw [List.take_add_one, ho']; rfl
  have hp : (ops.toList.take (i + 1)).Sublist (ops.toList.take j) := by
    have : ops.toList.take (i + 1) = (ops.toList.take j).take (i + 1) := by rw [List.take_take, Nat.min_eq_left (by omega)]
    rw [this]; exact List.take_sublist _ _
  have hle := (hp.filter isAlloc).length_le
  rw [e, List.filter_append] at hle
  simp [ha] at hle
  omega
theorem rank_ne {i j : Nat} {o o' : Oper} (hij : i ≠ j) (ho : ops[i]? = some o) (ha : isAlloc o = true) (ho' : ops[j]? = some o') (ha' : isAlloc o' = true) : rank ops i ≠ rank ops j := by
  rcases Nat.lt_or_gt_of_ne hij with h | h
  · have := rank_lt h ho ha; omega
  · have := rank_lt h ho' ha'; omega

theorem parts0_sound {ρ : Loc'} {a : Act} : ∀ {ps : List (Nat × Operand)} {l : List (Nat × V1)}, partsX st0 ps = some l → All2 (fun p (q : Nat × Value) => p.1 = q.1 ∧ D1 ρ p.2 q.2) l (ps.map fun (i, x) => (i, a.eval x))
  | [], l, hl => by simp [partsX] at hl; subst hl; exact .nil
  | (i, x) :: r, l, hl => by
    simp only [partsX] at hl
    split at hl
    · rename_i y l' h1 h2
      cases hl
      refine .cons ⟨rfl, ?_⟩ (parts0_sound h2)
      cases x with
      | tmp t => cases h1
      | const c =>
        unfold St.ev1 at h1
        simp only [St.eval] at h1
        cases hc : okConst c with
        | false => rw [hc] at h1; cases h1
        | true =>
          rw [hc] at h1
          simp only [cond_true, Option.some.injEq] at h1
          subst h1
          exact D1.ofValue ρ hc
      | global g => cases h1
      | func f =>
        simp only [St.ev1, St.eval, Option.some.injEq] at h1
        subst h1
        exact .one (.fn (vs := []) (rs := []) .nil .nil)
    · cases hl
theorem made_sound {P : Program} {o : Oper} (ha : isAlloc o = true) {l : List C} {t : TypeId} (h : madeX P o = some (l, t)) (a : Act) (w : World) (ρ : Loc') :
    ∃ (xs : List Value) (x : Value), All2 (DC ρ) l xs ∧ (execOp a.eval o).run P w = .ok (.value x) { w with heap := w.heap.push (.cells xs.toArray t (0, 0)) } ∧ ∀ (ρ' : Loc') (b : Nat), ρ' b = some w.heap.size → DV ρ' (allocV o b) x := by
  unfold madeX at h
  unfold allocV
  split at h
  · rename_i t' hop
    split at h
    · rename_i z hz
      cases h
      obtain ⟨zv, h1, h2⟩ := run_zeroX hz w ρ
      refine ⟨zv.cells.toList, .pointer (some ⟨w.heap.size, 0, none⟩), h2, ?_, fun ρ' b hb => ?_⟩
      · unfold execOp
        simp only [hop]
        simp [Instr.alloc, h1, newVar, newRow]
      · simp only [hop]
        exact .s (.one (.ptr hb))
    · cases h
  · rename_i t' n ps hop
    split at h
    · rename_i et l' hu hps
      split at h
      · rename_i s z hs hz
        cases hb : Nat.ble n 10000 && Nat.ble s 1000 && Nat.blt 0 s && Nat.beq z.length s with
        | false => rw [hb] at h; cases h
        | true =>
          rw [hb] at h
          simp only [cond_true] at h
          split at h
          · rename_i cells hf
            cases h
            simp only [Bool.and_eq_true] at hb
            obtain ⟨⟨⟨b1, b2⟩, b3⟩, b4⟩ := hb
            have b1 := ble_t b1
            have b2 := ble_t b2
            have b3 : 0 < s := ble_t b3
            have b4 := beq_t b4
            obtain ⟨ti, zv, hi1, hi2, hi3, hi5⟩ := infoX' hs hz ρ
            have hlen := hi5.length
            have hrow := zeros_made (ρ := ρ) hi5 (by simpa using (show zv.cells.toList.length = s by omega)) n
            obtain ⟨ys, h1, h2⟩ := fill_sound (place := fun i => some (i * s, s)) (fun _ _ hq => hq) (parts0_sound (a := a) hps) hrow hf
            refine ⟨ys, .slice (some ⟨w.heap.size, 0, none⟩) n n, h2, ?_, fun ρ' b hb => ?_⟩
            · have hns : n * s ≤ 10000 * 1000 := Nat.mul_le_mul b1 b2
              simp only [Array.toArray_toList] at h1
              unfold execOp
              simp only [hop]
              by_cases hn : n = 0
              · subst hn
                have hpz : Instr.fill (fun i => some (i * s, s)) #[] (ps.toList.map fun (i, x) => (i, a.eval x)) = some ys.toArray := by
                  have hm0 : madeCells zv.cells (0 * s) = #[] := by rw [Nat.zero_mul]; simp [madeCells, Array.range_zero']
                  rw [hm0] at h1
                  exact h1
                simp [Instr.buildSlice, run_underlying hu, run_sizeX hs, Array.range_zero', hpz, newRow]
              · have hpos : ¬ n * ti.size = 0 := by rw [hi2]; exact fun q => by rcases Nat.mul_eq_zero.1 q with q | q <;> omega
                have hrun := run_buildSlice (P := P) w t' t n (ps.map fun (i, x) => (i, a.eval x)) ys.toArray ti zv hu hi1 hi3 (by rw [hi2]; omega) hpos (by
                  rw [hi2]
                  have e1 : (ps.map fun (x : Nat × Operand) => (x.1, a.eval x.2)).toList = ps.toList.map fun (i, x) => (i, a.eval x) := by simp
                  rw [e1]; exact h1)
                simp only [Sem.run_bind, hrun]
                rfl
            · simp only [hop]
              exact .s (.one (.sl hb))
          · cases h
      · cases h
    · cases h
  · cases h
/-- What only makes memory, at a state. -/
theorem madeN_sound {P : Program} {ρ : Loc'} {st : St} {a : Act} {w : World} (h : StRel W ρ st a w) {o : Oper} {b : Nat} {l : List C} {t : TypeId} {v : V} (hv : madeN P st o b = some (l, t, v)) :
    ∃ (xs : List Value) (x : Value), All2 (DC ρ) l xs ∧ (execOp a.eval o).run P w = .ok (.value x) { w with heap := w.heap.push (.cells xs.toArray t (0, 0)) } ∧ ∀ ρ' : Loc', ρ' b = some w.heap.size → DV ρ' v x := by
  obtain ⟨dst, op, type, pos, after, guard⟩ := o
  unfold madeN at hv
  simp only at hv
  split at hv
  · rename_i t x
    split at hv
    · rename_i y hy
      simp only [Option.some.injEq, Prod.mk.injEq] at hv
      obtain ⟨rfl, rfl, rfl⟩ := hv
      have hc := (ev1_sound h hy).cells
      refine ⟨_, .pointer (some ⟨w.heap.size, 0, none⟩), hc, ?_, fun ρ' hb => .s (.one (.ptr hb))⟩
      simp [execOp, Instr.box, newVar, newRow]
    · cases hv
  · rename_i t l c
    split at hv
    · rename_i e kl i kc j hu hl hc
      split at hv
      · rename_i s z by' hs hz hb
        split at hv
        · rename_i hcond
          obtain ⟨c1, c2, c3, c4, c5⟩ := hcond
          simp only [Option.some.injEq, Prod.mk.injEq] at hv
          obtain ⟨rfl, rfl, rfl⟩ := hv
          have el := (evc_sound h hl).v_inv
          have ec := (evc_sound h hc).v_inv
          obtain ⟨ti, zv, hi1, hi2, hi3, hi4, hi5⟩ := infoX hs hz hb ρ
          have hlen := hi5.length
          have hrun := run_make (P := P) w t e ti zv hu hi1 hi3 kl kc i j c1 c2 (by
            rw [hi4]
            have : (by' : Int) * j ≤ 1000000 * 100000 := Int.mul_le_mul (by omega) c3 (by omega) (by omega)
            omega) (by omega)
          rw [hi2] at hrun
          have hrow := zeros_made (ρ := ρ) hi5 (by simpa using (show zv.cells.toList.length = s by omega)) j.toNat
          refine ⟨_, .slice (some ⟨w.heap.size, 0, none⟩) i.toNat j.toNat, hrow, ?_, fun ρ' hb => .s (.one (.sl hb))⟩
          simp only [execOp, el, ec, Sem.run_bind, hrun]
          simp only [Array.toArray_toList]
          rfl
        · cases hv
      · cases hv
    · cases hv
  · rename_i t n ps
    split at hv
    · rename_i e l' hu hps
      split at hv
      · rename_i s z hs hz
        cases hb : Nat.ble n 10000 && Nat.ble s 1000 && Nat.blt 0 s && Nat.beq z.length s with
        | false => rw [hb] at hv; cases hv
        | true =>
          rw [hb] at hv
          simp only [cond_true] at hv
          split at hv
          · rename_i cells hf
            simp only [Option.some.injEq, Prod.mk.injEq] at hv
            obtain ⟨rfl, rfl, rfl⟩ := hv
            simp only [Bool.and_eq_true] at hb
            obtain ⟨⟨⟨b1, b2⟩, b3⟩, b4⟩ := hb
            have b1 := ble_t b1
            have b2 := ble_t b2
            have b3 : 0 < s := ble_t b3
            have b4 := beq_t b4
            obtain ⟨ti, zv, hi1, hi2, hi3, hi5⟩ := infoX' hs hz ρ
            have hlen := hi5.length
            have hrow := zeros_made (ρ := ρ) hi5 (by simpa using (show zv.cells.toList.length = s by omega)) n
            obtain ⟨ys, h1, h2⟩ := fill_sound (place := fun i => some (i * s, s)) (fun _ _ hq => hq) (parts_sound h hps) hrow hf
            refine ⟨ys, .slice (some ⟨w.heap.size, 0, none⟩) n n, h2, ?_, fun ρ' hb => .s (.one (.sl hb))⟩
            have hns : n * s ≤ 10000 * 1000 := Nat.mul_le_mul b1 b2
            simp only [Array.toArray_toList] at h1
            by_cases hn : n = 0
            · subst hn
              have hpz : Instr.fill (fun i => some (i * s, s)) #[] (ps.toList.map fun (i, x) => (i, a.eval x)) = some ys.toArray := by
                have hm0 : madeCells zv.cells (0 * s) = #[] := by rw [Nat.zero_mul]; simp [madeCells, Array.range_zero']
                rw [hm0] at h1
                exact h1
              simp [execOp, Instr.buildSlice, run_underlying hu, run_sizeX hs, Array.range_zero', hpz, newRow]
            · have hpos : ¬ n * ti.size = 0 := by rw [hi2]; exact fun q => by rcases Nat.mul_eq_zero.1 q with q | q <;> omega
              have hrun := run_buildSlice (P := P) w t e n (ps.map fun (i, x) => (i, a.eval x)) ys.toArray ti zv hu hi1 hi3 (by rw [hi2]; omega) hpos (by
                rw [hi2]
                have e1 : (ps.map fun (x : Nat × Operand) => (x.1, a.eval x.2)).toList = ps.toList.map fun (i, x) => (i, a.eval x) := by simp
                rw [e1]; exact h1)
              simp only [execOp, Sem.run_bind, hrun]
              rfl
          · cases hv
      · cases hv
    · cases hv
  · cases hv
theorem madeN_defer {P : Program} {st : St} {o : Oper} {b : Nat} {x : List C × TypeId × V} (h : madeN P st o b = some x) (c : Call) : o.op ≠ .defer c := fun hc => by
  unfold madeN at h
  rw [hc] at h
  cases h
theorem rank_cnt {i : Nat} {o : Oper} (ho : ops[i]? = some o) (ha : isAlloc o = true) : rank ops i < (ops.toList.filter isAlloc).length := by
  have hi : i < ops.toList.length := by
    have := (Array.getElem?_eq_some_iff.1 ho).1
    simpa using this
  have h1 : ops.toList.take (i + 1) = ops.toList.take i ++ [o] := by
    rw [List.take_add_one]
    have : ops.toList[i]? = some o := by simpa using ho
    rw [this]; rfl
  have h2 : rank ops i + 1 = ((ops.toList.take (i + 1)).filter isAlloc).length := by
    rw [h1]; simp [rank, ha]
  have h3 := ((List.take_sublist (i + 1) ops.toList).filter isAlloc).length_le
  omega
/-- The numbers that are set aside are still free, and hold what they must. -/
def Res (E : Env) (ops : Array Oper) (hn0 : Nat) (listed : Array Bool) (ρ : Loc') (m : Mem) : Prop :=
  (∀ i o, ops[i]? = some o → isAlloc o = true → listed.getD i true = false →
    ρ (hn0 + rank ops i) = none ∧ hn0 + rank ops i < m.hn ∧ ∃ l t, madeX E.P o = some (l, t) ∧ m.hp.get (hn0 + rank ops i) = some (.cells l t)) ∧
  ∀ i b l t o, E.orc i = some (b, l, t) → ops[i]? = some o → isAlloc o = false → listed.getD i true = false →
    ρ b = none ∧ b < m.hn ∧ m.hp.get b = some (.cells l t)
/-- The numbers of a guess lie behind the others, and differ. -/
structure OrcOk (E : Env) (ops : Array Oper) (hn0 : Nat) : Prop where
  big : ∀ i b l t, E.orc i = some (b, l, t) → hn0 + (ops.toList.filter isAlloc).length ≤ b
  inj : ∀ i j b l t l' t', E.orc i = some (b, l, t) → E.orc j = some (b, l', t') → i = j
theorem alloc_defer {o : Oper} (h : isAlloc o = true) (c : Call) : o.op ≠ .defer c := fun hc => by
  unfold isAlloc at h
  rw [hc] at h
  cases h
theorem unlisted {listed : Array Bool} {i j : Nat} (hj : listed.getD j true = false) (h : (listed.setIfInBounds j true).getD i true = false) : i ≠ j ∧ listed.getD i true = false := by
  by_cases hij : j = i
  · subst hij
    have hlt : j < listed.size := by
      rcases Nat.lt_or_ge j listed.size with h' | h'
      · exact h'
      · simp [Array.getElem?_eq_none h'] at hj
    simp [hlt] at h
  · rw [getD_set_ne true hij] at h
    exact ⟨Ne.symm hij, h⟩

theorem good_wp {q : Nat → Option (Nat × List C × TypeId)} (rd : Option Nat) (hE : EnvOk E W) (hR : RunOk E W run) (hO : OrcOk (E.at q) ops hn0) {Q : Exit → Act → World → Prop} : ∀ (fuel : Nat) (listed : Array Bool) (bs : List (Nat × Nat)) (st : St) (ρ : Loc') (a : Act) (w : World),
    ρ.val = E.val → Good (E.at q) run ops hn0 fin fuel listed bs st → StRel W ρ st a w → Res (E.at q) ops hn0 listed ρ st.m → hn0 ≤ st.m.hn →
    (∀ ρ' a' w', Ext ρ ρ' → Keep hn0 st.m fin.m ρ ρ' → StRel W ρ' fin a' w' → Q .normal a' w') → wpAnyIn (fen rd) 0 E.P .any ops Q fuel listed a w
  | 0, listed, bs, st, ρ, a, w, hV, hg, h, hres, hn, hQ => by
    obtain ⟨h1, rfl⟩ := hg
    exact ⟨h1, hQ ρ a w (Ext.refl _) (Keep.refl _ _ _) h⟩
  | fuel + 1, listed, bs, st, ρ, a, w, hV, hg, h, hres, hn, hQ => by
    have hR' : RunOk (E.at q) W run := ⟨hR.frm, hR.rounds, hR.calls⟩
    have hE' : EnvOk (E.at q) W := ⟨hE.mixed, hE.name, hE.ext, hE.sum, hE.test⟩
    refine ⟨fun hr => ?_, fun j hj => ?_⟩
    · have := hg.1 hr
      subst this
      exact hQ ρ a w (Ext.refl _) (Keep.refl _ _ _) h
    · obtain ⟨hjun, o, ho, _⟩ := mem_ready.1 hj
      obtain ⟨v, m, hs, hg'⟩ := hg.2 j hj o ho
      have hfr := step_frm hR' hs
      have go : ∀ ρ' x w', Ext ρ ρ' → Keep hn0 st.m m ρ ρ' → DV ρ' v x → MemRel W ρ' m w' → Res (E.at q) ops hn0 (listed.setIfInBounds j true) ρ' m → wpAnyIn (fen rd) 0 E.P .any ops Q fuel (listed.setIfInBounds j true) (a.put o.dst x) w' := fun ρ' x w' h1 h2 h3 h4 h5 => by
        refine good_wp rd hE hR hO fuel _ bs _ ρ' _ w' (h1.val.trans hV) hg' ((h.mono h1 h4).put o.dst h3) (by rw [put_m]; exact h5) (by rw [put_m]; exact Nat.le_trans hn hfr.hn) fun ρ'' a'' w'' k1 k2 k3 => ?_
        rw [put_m] at k2
        exact hQ ρ'' a'' w'' (h1.trans k1) (h2.trans k2 (Nat.le_refl _)) k3
      have hresSame : Res (E.at q) ops hn0 (listed.setIfInBounds j true) ρ st.m := ⟨fun i o' ho' hop hl => by
        obtain ⟨_, hl'⟩ := unlisted hjun hl
        exact hres.1 i o' ho' hop hl', fun i b l t o' hq ho' hop hl => by
        obtain ⟨_, hl'⟩ := unlisted hjun hl
        exact hres.2 i b l t o' hq ho' hop hl'⟩
      unfold wpOpIn
      simp only [ho]
      rw [wanted_sound h]
      unfold stepD at hs
      cases hw : wantedX ops st o with
      | false =>
        simp only [Bool.false_eq_true, if_false]
        have hf : floatX (E.at q) ops hn0 st j o = some (.tup [], none) := by unfold floatX; rw [hw]; rfl
        rw [hf] at hs
        simp only [Option.some.injEq, Prod.mk.injEq] at hs
        obtain ⟨rfl, rfl⟩ := hs
        exact ⟨fun f _ => fen_fn rd f, go ρ undef w (Ext.refl _) (Keep.refl _ _ _) (DV.undef _) h.mem hresSame⟩
      | true =>
        simp only [if_true]
        cases ha : isAlloc o with
        | true =>
          have hf : floatX (E.at q) ops hn0 st j o = some (allocV o (hn0 + rank ops j), none) := by unfold floatX; rw [hw, ha]; rfl
          rw [hf] at hs
          simp only [Option.some.injEq, Prod.mk.injEq] at hs
          obtain ⟨rfl, rfl⟩ := hs
          obtain ⟨hnone, hlt, l, t, hz, hget⟩ := hres.1 j o ho ha hjun
          obtain ⟨xs, x, h2, hrun, hval⟩ := made_sound ha hz a w ρ
          have hmem := h.mem.fresh (m' := st.m) (k := .cells l t) (o := .cells xs.toArray t (0, 0)) hnone hlt hget (DB.cells' h2) (fun _ _ _ => rfl) (Nat.le_refl _) h.mem.full
          refine ⟨fun f _ => fen_fn rd f, ?_⟩
          rw [Oper.semAt_eq _ _ _ (alloc_defer ha)]
          have hrun' : (execOp a.eval o).run E.P w = .ok (.value x) { w with heap := w.heap.push (.cells xs.toArray t (0, 0)) } := hrun
          rw [hrun', Oper.uponIn_value]
          refine go _ _ _ (Ext.add hnone) (fun b hb hx => ⟨by rw [add_other (by omega)]; exact hx, rfl⟩) (hval _ _ (add_same _ _ _)) hmem ⟨fun i o' ho' hop' hl => ?_, fun i b l' t' o' hq ho' hop' hl => ?_⟩
          · obtain ⟨hij, hl'⟩ := unlisted hjun hl
            obtain ⟨k1, k2, k3⟩ := hres.1 i o' ho' hop' hl'
            have hne := rank_ne hij ho' hop' ho ha
            exact ⟨by rw [add_other (by omega)]; exact k1, k2, k3⟩
          · obtain ⟨_, hl'⟩ := unlisted hjun hl
            obtain ⟨k1, k2, k3⟩ := hres.2 i b l' t' o' hq ho' hop' hl'
            have := hO.big i b l' t' hq
            have := rank_cnt ho ha
            exact ⟨by rw [add_other (by omega)]; exact k1, k2, k3⟩
        | false =>
          split at hs
          · rename_i u b hf
            simp only [Option.some.injEq, Prod.mk.injEq] at hs
            obtain ⟨rfl, rfl⟩ := hs
            unfold floatX at hf
            rw [hw, ha] at hf
            simp only [cond_true, cond_false] at hf
            split at hf
            · rename_i b0 l0 t0 hq
              split at hf
              · rename_i l1 t1 v1 hmn
                cases he : eqL eqD l1 l0 && Nat.beq t1 t0 with
                | false => rw [he] at hf; cases hf
                | true =>
                  rw [he] at hf
                  simp only [cond_true, Option.some.injEq, Prod.mk.injEq] at hf
                  obtain ⟨rfl, _⟩ := hf
                  simp only [Bool.and_eq_true] at he
                  have e1 := eqL_eq eqD_eq he.1
                  have e2 := beq_t he.2
                  subst e1; subst e2
                  obtain ⟨hnone, hlt, hget⟩ := hres.2 j b0 l1 t1 o hq ho ha hjun
                  obtain ⟨xs, x, h2, hrun, hval⟩ := madeN_sound h hmn
                  have hmem := h.mem.fresh (m' := st.m) (k := .cells l1 t1) (o := .cells xs.toArray t1 (0, 0)) hnone hlt hget (DB.cells' h2) (fun _ _ _ => rfl) (Nat.le_refl _) h.mem.full
                  have hbig := hO.big j b0 l1 t1 hq
                  refine ⟨fun f _ => fen_fn rd f, ?_⟩
                  rw [Oper.semAt_eq _ _ _ (madeN_defer hmn)]
                  have hrun' : (execOp a.eval o).run E.P w = .ok (.value x) { w with heap := w.heap.push (.cells xs.toArray t1 (0, 0)) } := hrun
                  rw [hrun', Oper.uponIn_value]
                  refine go _ _ _ (Ext.add hnone) (fun b hb hx => ⟨by rw [add_other (by omega)]; exact hx, rfl⟩) (hval _ (add_same _ _ _)) hmem ⟨fun i o' ho' hop' hl => ?_, fun i b l' t' o' hq' ho' hop' hl => ?_⟩
                  · obtain ⟨_, hl'⟩ := unlisted hjun hl
                    obtain ⟨k1, k2, k3⟩ := hres.1 i o' ho' hop' hl'
                    have := rank_cnt ho' hop'
                    exact ⟨by rw [add_other (by omega)]; exact k1, k2, k3⟩
                  · obtain ⟨hij, hl'⟩ := unlisted hjun hl
                    obtain ⟨k1, k2, k3⟩ := hres.2 i b l' t' o' hq' ho' hop' hl'
                    have hne : b ≠ b0 := fun e => by subst e; exact hij (hO.inj i j b l' t' l1 t1 hq' hq)
                    exact ⟨by rw [add_other hne]; exact k1, k2, k3⟩
              · cases hf
            have hp : pureO (E.at q) st o = some u := by
              split at hf
              · simp only [Option.map_eq_some_iff, Prod.mk.injEq] at hf
                obtain ⟨_, h1, rfl, _⟩ := hf; exact h1
              · rename_i q hl
                cases hb : Nat.blt q hn0 with
                | false => rw [hb] at hf; cases hf
                | true =>
                  rw [hb] at hf
                  simp only [cond_true, Option.map_eq_some_iff, Prod.mk.injEq] at hf
                  obtain ⟨_, h1, rfl, _⟩ := hf; exact h1
              · cases hf
            obtain ⟨x, h1, h2⟩ := pureO_sound hE' hV h hp
            refine ⟨fun f _ => fen_fn rd f, ?_⟩
            rw [Oper.semAt_eq _ _ _ (op_defer (E := E.at q) (run := run) (st := st) (v := u) (m' := st.m) (by unfold opX; rw [hp]))]
            have h2' : (execOp a.eval o).run E.P w = .ok (.value x) w := h2
            rw [h2', Oper.uponIn_value]
            exact go ρ x w (Ext.refl _) (Keep.refl _ _ _) h1 h.mem hresSame
          · unfold heavyX at hs
            split at hs
            · rename_i u m1 hop
              cases hsp : spares hn0 bs st o m1 with
              | false => rw [hsp] at hs; cases hs
              | true =>
                rw [hsp] at hs
                simp only [cond_true, Option.some.injEq, Prod.mk.injEq] at hs
                obtain ⟨rfl, rfl⟩ := hs
                refine op_wp (E := E.at q) hE' hR' hV (h.wr st.m.hn) hop (rd := rd) fun ρ' x w' h1 h2 h3 h4 => ?_
                have hk : Keep st.m.hn st.m ⟨m1.hp, m1.hn, bif Nat.ble st.m.wr m1.wr then st.m.wr else m1.wr⟩ ρ ρ' := h2
                refine go ρ' x w' h1 (hk.le hn) h3 (h4.wr _) ⟨fun i o' ho' hop' hl => ?_, fun i b l' t' o' hq ho' hop' hl => ?_⟩
                · obtain ⟨hij, hl'⟩ := unlisted hjun hl
                  obtain ⟨k1, k2, l, t, k3, k4⟩ := hres.1 i o' ho' hop' hl'
                  obtain ⟨q1, q2⟩ := hk _ k2 k1
                  exact ⟨q1, Nat.lt_of_lt_of_le k2 hfr.hn, l, t, k3, q2.trans k4⟩
                · obtain ⟨hij, hl'⟩ := unlisted hjun hl
                  obtain ⟨k1, k2, k3⟩ := hres.2 i b l' t' o' hq ho' hop' hl'
                  obtain ⟨q1, q2⟩ := hk _ k2 k1
                  exact ⟨q1, Nat.lt_of_lt_of_le k2 hfr.hn, q2.trans k3⟩
            · cases hs

theorem aside_frm {P : Program} : ∀ {l : List Oper} {m m1 : Mem}, aside P l m = some m1 → Frm m m1
  | [], m, m1, h => by simp only [aside, Option.some.injEq] at h; subst h; exact .refl _
  | o :: r, m, m1, h => by
    simp only [aside] at h
    cases ha : isAlloc o with
    | true =>
      rw [ha] at h
      simp only [cond_true] at h
      split at h
      · exact (Frm.push _ _).trans (aside_frm h)
      · cases h
    | false => rw [ha] at h; exact aside_frm h
theorem aside_spec {P : Program} : ∀ {l pre : List Oper} {m0 m m1 : Mem}, aside P l m = some m1 → m.hn = m0.hn + (pre.filter isAlloc).length → (∀ i, i < m.hn → (m.hp.get i).isSome) → 
    Frm m m1 ∧ (∀ i, i < m1.hn → (m1.hp.get i).isSome) ∧ m1.wr = m.wr ∧ (∀ b, b < m.hn → m1.hp.get b = m.hp.get b) ∧
    ∀ i o, l[i]? = some o → isAlloc o = true → m0.hn + ((pre ++ l.take i).filter isAlloc).length < m1.hn ∧ ∃ q t, madeX P o = some (q, t) ∧ m1.hp.get (m0.hn + ((pre ++ l.take i).filter isAlloc).length) = some (.cells q t)
  | [], pre, m0, m, m1, h, hn, hfull => by
    simp only [aside, Option.some.injEq] at h; subst h
    exact ⟨.refl _, hfull, rfl, fun _ _ => rfl, fun i o hi => by simp at hi⟩
  | o :: r, pre, m0, m, m1, h, hn, hfull => by
    simp only [aside] at h
    cases ha : isAlloc o with
    | true =>
      rw [ha] at h
      simp only [cond_true] at h
      split at h
      · rename_i z t hz
        have hfull' : ∀ i, i < (m.push (.cells z t)).hn → ((m.push (.cells z t)).hp.get i).isSome := fun i hi => by
          simp only [Mem.push] at hi ⊢
          by_cases hin : i = m.hn
          · subst hin; rw [get_ins_eq _ hfull]; rfl
          · rw [get_ins_ne _ (Ne.symm hin)]; exact hfull i (by omega)
        obtain ⟨h1, h2, h3, h4, h5⟩ := aside_spec (pre := pre ++ [o]) (m0 := m0) h (by simp [Mem.push, ha]; omega) hfull'
        refine ⟨(Frm.push _ _).trans h1, h2, h3, fun b hb => ?_, fun i o' hi hop' => ?_⟩
        · rw [h4 b (by simp [Mem.push]; omega)]
          exact get_ins_ne _ (by omega)
        · cases i with
          | zero =>
            simp only [List.getElem?_cons_zero, Option.some.injEq] at hi
            subst hi
            simp only [List.take_zero, List.append_nil]
            rw [← hn]
            have := h1.hn
            simp only [Mem.push] at this
            refine ⟨by omega, z, t, hz, ?_⟩
            rw [h4 m.hn (by simp [Mem.push])]
            exact get_ins_eq _ hfull
          | succ i =>
            have := h5 i o' (by simpa using hi) hop'
            simpa using this
      · cases h
    | false =>
      rw [ha] at h
      obtain ⟨h1, h2, h3, h4, h5⟩ := aside_spec (pre := pre ++ [o]) (m0 := m0) h (by simp [ha]; omega) hfull
      refine ⟨h1, h2, h3, h4, fun i o' hi hop' => ?_⟩
      cases i with
      | zero =>
        simp only [List.getElem?_cons_zero, Option.some.injEq] at hi
        subst hi
        rw [ha] at hop'; cases hop'
      | succ i =>
        have := h5 i o' (by simpa using hi) hop'
        simpa using this

/-- A region that draws, by an order that shows that every order is as good. -/
theorem any_wp {q : Nat → Option (Nat × List C × TypeId)} {id : Nat} {st st1 : St} {m1 : Mem} (hE : EnvOk E W) (hR : RunOk E W run) (hfa : Frm st.m m1) (hfull : ∀ i, i < m1.hn → (m1.hp.get i).isSome) (hget : ∀ b, b < st.m.hn → m1.hp.get b = st.m.hp.get b)
    (hO : OrcOk (E.at q) ops st.m.hn) (hA : ∀ i o, ops[i]? = some o → isAlloc o = true → st.m.hn + rank ops i < m1.hn ∧ ∃ l t, madeX E.P o = some (l, t) ∧ m1.hp.get (st.m.hn + rank ops i) = some (.cells l t))
    (hB : ∀ i b l t, q i = some (b, l, t) → st.m.hn ≤ b ∧ b < m1.hn ∧ m1.hp.get b = some (.cells l t))
    (hgood : Good (E.at q) run ops st.m.hn st1 ops.size (Array.replicate ops.size false) [] ⟨st.tm, m1, st.ds⟩) (r : Option Nat) (ρ : Loc') (a : Act) (w : World) (hV : ρ.val = E.val) (hs : StRel W ρ st a w) (Q : Exit → Act → World → Prop)
    (hQ : ∀ ρ' a' w', Ext ρ ρ' → Keep st.m.hn st.m st1.m ρ ρ' → StRel W ρ' st1 a' w' → Q .normal a' w') : (Code.region id ops true).wpIn (fen r) 0 E.P Q a w := by
  refine wpIn_region_any hE.mixed ?_
  have hmem : MemRel W ρ m1 { w with drawn := w.drawn + 1 } := by
    refine ⟨(hs.mem.drawn _).below, fun b q hb => ?_, fun i j q hi hj g1 g2 => hs.mem.inj i j q hi hj (by rw [← hget i (hs.mem.dom i q hi).1]; exact g1) (by rw [← hget j (hs.mem.dom j q hj).1]; exact g2), hs.mem.size, hfull⟩
    obtain ⟨k1, k2, k, o, k3, k4, k5⟩ := hs.mem.dom b q hb
    exact ⟨Nat.lt_of_lt_of_le k1 hfa.hn, k2, k, o, (hget b k1).trans k3, k4, k5⟩
  have hst : StRel W ρ ⟨st.tm, m1, st.ds⟩ a { w with drawn := w.drawn + 1 } := ⟨hs.some, hs.none, hs.defers, hmem⟩
  have hnone : ∀ b, st.m.hn ≤ b → ρ b = none := fun b hb => by
    cases hc : ρ b with
    | none => rfl
    | some r => have := (hs.mem.dom _ _ hc).1; omega
  refine good_wp r hE hR hO ops.size _ [] _ ρ a _ hV hgood hst ⟨fun i o ho hop _ => ?_, fun i b l t o hq ho hop _ => ?_⟩ hfa.hn fun ρ' a' w' k1 k2 k3 => ?_
  · obtain ⟨h5, h6⟩ := hA i o ho hop
    exact ⟨hnone _ (by omega), h5, h6⟩
  · obtain ⟨h5, h6, h7⟩ := hB i b l t hq
    exact ⟨hnone _ h5, h6, h7⟩
  · refine hQ ρ' a' w' k1 (fun b hb hx => ?_) k3
    obtain ⟨q1, q2⟩ := k2 b hb hx
    exact ⟨q1, q2.trans (hget b hb)⟩
theorem asideL_frm : ∀ {L : List (Nat × List C × TypeId)} {m : Mem}, Frm m (asideL L m)
  | [], m => .refl _
  | p :: L, m => (Frm.push m _).trans (asideL_frm (L := L))
theorem aside_hn {P : Program} : ∀ {l : List Oper} {m m1 : Mem}, aside P l m = some m1 → m1.hn = m.hn + (l.filter isAlloc).length
  | [], m, m1, h => by simp only [aside, Option.some.injEq] at h; subst h; rfl
  | o :: r, m, m1, h => by
    simp only [aside] at h
    cases ha : isAlloc o with
    | true =>
      rw [ha] at h
      simp only [cond_true] at h
      split at h
      · rw [aside_hn h]
        simp [Mem.push, ha]; omega
      · cases h
    | false => rw [ha] at h; rw [aside_hn h]; simp [ha]
theorem asideL_spec : ∀ {L : List (Nat × List C × TypeId)} {m : Mem}, (∀ i, i < m.hn → (m.hp.get i).isSome) →
    Frm m (asideL L m) ∧ (asideL L m).hn = m.hn + L.length ∧ (∀ i, i < (asideL L m).hn → ((asideL L m).hp.get i).isSome) ∧ (∀ i, i < m.hn → (asideL L m).hp.get i = m.hp.get i) ∧
    ∀ i b l t, orcOf m.hn L i = some (b, l, t) → m.hn ≤ b ∧ b < (asideL L m).hn ∧ (asideL L m).hp.get b = some (.cells l t) ∧ ∃ p, L[b - m.hn]? = some p ∧ p.1 = i
  | [], m, hf => ⟨.refl _, rfl, hf, fun _ _ => rfl, fun i b l t h => by cases h⟩
  | p :: L, m, hf => by
    have hf' : ∀ i, i < (m.push (.cells p.2.1 p.2.2)).hn → ((m.push (.cells p.2.1 p.2.2)).hp.get i).isSome := fun i hi => by
      show ((m.hp.ins m.hn _).get i).isSome
      by_cases hin : i = m.hn
      · subst hin; rw [get_ins_eq _ hf]; rfl
      · rw [get_ins_ne _ (Ne.symm hin)]
        have : i < m.hn + 1 := hi
        exact hf i (by omega)
    obtain ⟨h1, h2, h3, h4, h5⟩ := asideL_spec (L := L) hf'
    have e : (m.push (.cells p.2.1 p.2.2)).hn = m.hn + 1 := rfl
    have e2 : asideL (p :: L) m = asideL L (m.push (.cells p.2.1 p.2.2)) := rfl
    rw [e2]
    refine ⟨(Frm.push _ _).trans h1, by rw [h2, e]; simp only [List.length_cons]; omega, h3, fun i hi => ?_, fun i b l t h => ?_⟩
    · rw [h4 i (by rw [e]; omega)]
      exact get_ins_ne _ (by omega)
    · simp only [orcOf] at h
      cases hb : Nat.beq i p.1 with
      | true =>
        rw [hb] at h
        simp only [cond_true, Option.some.injEq] at h
        obtain ⟨rfl, hp⟩ := Prod.mk.inj h
        refine ⟨Nat.le_refl _, by rw [h2, e]; omega, ?_, p, by simp, (beq_t hb).symm⟩
        rw [h4 m.hn (by rw [e]; omega)]
        have : (m.hp.ins m.hn (.cells p.2.1 p.2.2)).get m.hn = some (.cells p.2.1 p.2.2) := get_ins_eq _ hf
        rw [show p.2.1 = l by rw [hp], show p.2.2 = t by rw [hp]] at this
        rw [show p.2.1 = l by rw [hp], show p.2.2 = t by rw [hp]]
        exact this
      | false =>
        rw [hb] at h
        simp only [cond_false] at h
        obtain ⟨k1, k2, k3, p', k4, k5⟩ := h5 i b l t h
        rw [e] at k1 k4
        refine ⟨by omega, k2, k3, p', ?_, k5⟩
        rw [show b - m.hn = (b - (m.hn + 1)) + 1 by omega, List.getElem?_cons_succ]
        exact k4
theorem draw_frm (hR : RunOk E W run) : ∀ (fuel : Nat) (listed : Array Bool) (bs : List (Nat × Nat)) (st : St), drawX E run ops hn0 fuel listed bs st = some fin → Frm st.m fin.m
  | 0, listed, bs, st, h => by
    unfold drawX at h
    split at h
    · simp only [Option.some.injEq] at h; subst h; exact .refl _
    · cases h
  | fuel + 1, listed, bs, st, h => by
    unfold drawX at h
    split at h
    · simp only [Option.some.injEq] at h; subst h; exact .refl _
    · split at h
      · split at h
        · split at h
          · have := draw_frm hR fuel _ _ _ h
            rw [put_m] at this
            exact this
          · cases h
        · cases h
      · split at h
        · split at h
          · split at h
            · rename_i v m hst
              have hs : stepD E run ops hn0 bs st _ _ = some (v, m) := hst
              have := draw_frm hR fuel _ _ _ h
              rw [put_m] at this
              exact (step_frm hR hs).trans this
            · cases h
          · cases h
        · cases h
theorem masks_len {ops : Array Oper} : ∀ {l : List Oper} {k : Nat}, (masksX ops l k).length = l.length
  | [], _ => rfl
  | _ :: l, k => by simp [masksX, masks_len (l := l)]
theorem drawP_frm (hR : RunOk E W run) : ∀ (p : Plan) (bs : List (Nat × Nat)) (st : St), drawP E run ops hn0 p bs st = some fin → Frm st.m fin.m
  | .done, bs, st, h => by simp only [drawP, Option.some.injEq] at h; subst h; exact .refl _
  | .fail, bs, st, h => by simp [drawP] at h
  | .step i o f g p, bs, st, h => by
    simp only [drawP] at h
    split at h
    · cases f with
      | true =>
        simp only [cond_true] at h
        have := drawP_frm hR p _ _ h
        rw [put_m] at this
        exact this
      | false =>
        simp only [cond_false] at h
        cases g with
        | false => cases h
        | true =>
          simp only [cond_true] at h
          have := drawP_frm hR p _ _ h
          rw [put_m] at this
          exact this
    · cases g with
      | false => cases h
      | true =>
        simp only [cond_true] at h
        split at h
        · rename_i v m hst
          have := drawP_frm hR p _ _ h
          rw [put_m] at this
          exact (heavy_frm hR hst).trans this
        · cases h
end

/-! ### Entering and leaving -/
theorem putArgs_get : ∀ (l : List V1) (i : Nat) (t : Tr V) (j : Nat), (∀ k, k < l.length → (t.get (i + k)).isSome) → (putArgs l i t).get j = if j < i then t.get j else if h : j - i < l.length then some (.s l[j - i]) else t.get j
  | [], i, t, j, _ => by simp [putArgs]
  | x :: r, i, t, j, h => by
    have h0 := h 0 (by simp)
    simp only [Nat.add_zero] at h0
    obtain ⟨z, hz⟩ := Option.isSome_iff_exists.1 h0
    have ih := putArgs_get r (i + 1) (t.set i (.s x)) j (fun k hk => by
      rw [get_set_ne _ (by omega)]
      have := h (k + 1) (by simp; omega)
      rwa [show i + (k + 1) = i + 1 + k by omega] at this)
    simp only [putArgs]
    rw [ih]
    by_cases h1 : j < i
    · rw [if_pos (by omega), if_pos h1, get_set_ne _ (by omega)]
    · rw [if_neg h1]
      by_cases h2 : j = i
      · subst h2
        rw [if_pos (by omega), get_set_eq _ hz]
        simp
      · rw [if_neg (by omega)]
        by_cases h3 : j - (i + 1) < r.length
        · have h4 : j - i < (x :: r).length := by simp; omega
          have e : j - i = (j - (i + 1)) + 1 := by omega
          simp only [h3, h4, dif_pos]
          congr 2
          simp only [e, List.getElem_cons_succ]
        · have h4 : ¬ (j - i < (x :: r).length) := by simp; omega
          simp only [h3, h4, dif_neg, not_false_eq_true]
          exact get_set_ne _ (by omega)

theorem enter_sound {W : Base} {ρ : Loc'} {fn : Func} {args : List V1} {xs : List Value} {tm : Tr V} {m : Mem} {w : World} (ht : enterX fn args = some tm) (hx : All2 (D1 ρ) args xs) (hm : MemRel W ρ m w) :
    StRel W ρ ⟨tm, m, []⟩ { tmps := xs.toArray ++ Array.replicate (fn.ntmps - xs.toArray.size) undef, defers := [] } w := by
  unfold enterX at ht
  cases hc : Nat.ble args.length fn.ntmps && Nat.ble fn.ntmps 1000000 with
  | false => rw [hc] at ht; cases ht
  | true =>
    rw [hc] at ht
    simp only [cond_true, Option.some.injEq] at ht
    subst ht
    simp only [Bool.and_eq_true] at hc
    have h1 := ble_t hc.1
    have h2 := ble_t hc.2
    have hlen := hx.length
    have h20 : fn.ntmps < 2 ^ 20 := by
      have : (2:Nat) ^ 20 = 1048576 := by decide
      omega
    have hmk : ∀ i, (Tr.mk 20 fn.ntmps (.tup [] : V)).get i = if i < fn.ntmps then some (.tup []) else none := fun i => get_mk _ 20 _ i h20
    have hget : ∀ j, (putArgs args 0 (Tr.mk 20 fn.ntmps (.tup []))).get j = if h : j < args.length then some (.s args[j]) else if j < fn.ntmps then some (.tup []) else none := fun j => by
      rw [putArgs_get args 0 _ j (fun k hk => by rw [hmk]; rw [if_pos (by omega)]; rfl)]
      simp only [Nat.not_lt_zero, if_false, Nat.sub_zero]
      by_cases hj : j < args.length
      · simp [hj]
      · simp only [hj, dif_neg, not_false_eq_true]; exact hmk j
    refine ⟨fun t v hv => ?_, fun t hv => ?_, .nil, hm⟩
    · rw [hget] at hv
      by_cases hj : t < args.length
      · simp only [hj, dif_pos, Option.some.injEq] at hv
        subst hv
        obtain ⟨x, hx1, hx2⟩ := hx.get (i := t) (a := args[t]) (by simp [hj])
        refine ⟨x, ?_, .s hx2⟩
        rw [Array.getElem?_append, if_pos (by simp; omega)]
        simpa using hx1
      · simp only [hj, dif_neg, not_false_eq_true] at hv
        split at hv
        · rename_i hlt
          simp only [Option.some.injEq] at hv; subst hv
          refine ⟨undef, ?_, DV.undef _⟩
          rw [Array.getElem?_append, if_neg (by simp; omega), Array.getElem?_replicate, if_pos (by simp; omega)]
        · cases hv
    · rw [hget] at hv
      by_cases hj : t < args.length
      · simp [hj] at hv
      · simp only [hj, dif_neg, not_false_eq_true] at hv
        split at hv
        · cases hv
        · rename_i hlt
          simp; omega

theorem run_asAddr {P : Program} (x : Addr) (w : World) : (asAddr (.pointer (some x))).run P w = .ok x w := rfl
theorem res_sound {P : Program} {W : Base} {ρ : Loc'} {st : St} {a : Act} {w : World} (h : StRel W ρ st a w) (f : ResultVar → Sem Value) (f1 : ∀ t, f (.tmp t) = pure (a.tmps.getD t undef))
    (f2 : ∀ b t, f (.cell b t) = (asAddr (a.tmps.getD b undef) >>= fun x => loadVar t x)) : ∀ {rs : List ResultVar} {l : List V1}, resX P st rs = some l →
    ∃ xs : List Value, All2 (D1 ρ) l xs ∧ (rs.mapM f).run P w = .ok xs w
  | [], l, hl => by simp only [resX, Option.some.injEq] at hl; subst hl; exact ⟨[], .nil, by simp⟩
  | .tmp t :: r, l, hl => by
    simp only [resX] at hl
    split at hl
    · rename_i y l' h1 h2
      simp only [Option.some.injEq] at hl; subst hl
      obtain ⟨xs, k1, k2⟩ := res_sound h f f1 f2 h2
      have hx := ev1_sound h h1
      refine ⟨_ :: xs, .cons hx k1, ?_⟩
      simp only [List.mapM_cons, Sem.run_bind, f1, Sem.run_pure, Result.andThen_ok, k2]
      rfl
    · cases hl
  | .cell b t :: r, l, hl => by
    simp only [resX] at hl
    split at hl
    · rename_i p o h1
      split at hl
      · rename_i y l' h2 h3
        simp only [Option.some.injEq] at hl; subst hl
        obtain ⟨xs, k1, k2⟩ := res_sound h f f1 f2 h3
        obtain ⟨q, hq, hρ⟩ := (evc_sound h h1).ptr_inv
        obtain ⟨x, hx1, hx2⟩ := load_sound (P := P) h.mem rfl h2 hρ
        have hq' : a.tmps.getD b undef = .pointer (some ⟨q, o, none⟩) := hq
        refine ⟨x :: xs, .cons hx1 k1, ?_⟩
        simp only [List.mapM_cons, Sem.run_bind, f2, hq', run_asAddr, Sem.run_pure, Result.andThen_ok, hx2, k2]
      · cases hl
    · cases hl
def resF (tmps : Array Value) : ResultVar → Sem Value
  | .tmp t => pure (tmps.getD t undef)
  | .cell b t => asAddr (tmps.getD b undef) >>= fun x => loadVar t x
theorem results_eq (fn : Func) (tmps : Array Value) : results fn tmps = (fn.results.mapM (resF tmps) >>= fun vs => pure (if h : vs.size = 1 then vs[0] else .tuple vs)) := by
  unfold results
  have e : (fun x => match x with
      | .tmp t => pure (tmps.getD t undef)
      | .cell a t => do loadVar t (← asAddr (tmps.getD a undef)) : ResultVar → Sem Value) = resF tmps := by
    funext x; cases x <;> rfl
  rw [← e]
  rfl
theorem results_sound {P : Program} {W : Base} {ρ : Loc'} {st : St} {a : Act} {w : World} (h : StRel W ρ st a w) {fn : Func} {l : List V1} (hl : resX P st fn.results.toList = some l) :
    ∃ x, DV ρ (packX l) x ∧ (results fn a.tmps).run P w = .ok x w := by
  obtain ⟨xs, h1, h2⟩ := res_sound h (resF a.tmps) (fun _ => rfl) (fun _ _ => rfl) hl
  have h3 : (results fn a.tmps).run P w = .ok (if h : xs.toArray.size = 1 then xs.toArray[0] else .tuple xs.toArray) w := by
    rw [results_eq, Array.mapM_eq_mapM_toList]
    simp only [bind_map_left, Sem.run_bind]
    rw [h2]
    rfl
  cases h1 with
  | nil => exact ⟨_, .tup .nil, by rw [h3]; rfl⟩
  | cons k1 k2 =>
    cases k2 with
    | nil => exact ⟨_, .s k1, by rw [h3]; rfl⟩
    | cons k3 k4 => exact ⟨_, .tup (.cons k1 (.cons k3 k4)), by rw [h3]; simp⟩

def exOf : Ex → Exit
  | .normal => .normal
  | .exit id => .exit id
  | .ret => .ret

/-- The fence is that of the round of this loop's record; or none. -/
def RdOk (rd r : Option Nat) (ρ : Loc') : Prop :=
  match rd, r with
  | none, none => True
  | some b, some l => ρ b = some l
  | _, _ => False
theorem RdOk.ext {rd r : Option Nat} {ρ ρ' : Loc'} (h : RdOk rd r ρ) (he : Ext ρ ρ') : RdOk rd r ρ' := by
  cases rd <;> cases r <;> first | exact h | exact he.loc _ _ h
theorem RdOk.fn {r : Option Nat} {ρ : Loc'} (h : RdOk none r ρ) : r = none := by cases r with | none => rfl | some _ => cases h
theorem RdOk.rd {b : Nat} {r : Option Nat} {ρ : Loc'} (h : RdOk (some b) r ρ) : ∃ l, r = some l ∧ ρ b = some l := by cases r with | none => cases h | some l => exact ⟨l, rfl, h⟩
/-- What is known of a reader of code. -/
def CodeOk (E : Env) (W : Base) (rd : Option Nat) (code : Code → St → Option (Ex × St)) : Prop :=
  ∀ c st ex st', code c st = some (ex, st') → Frm st.m st'.m ∧ ∀ (r : Option Nat) (ρ : Loc') (a : Act) (w : World), RdOk rd r ρ → ρ.val = E.val → StRel W ρ st a w → ∀ Q : Exit → Act → World → Prop,
    (∀ ρ' a' w', Ext ρ ρ' → Keep st.m.hn st.m st'.m ρ ρ' → StRel W ρ' st' a' w' → Q (exOf ex) a' w') → c.wpIn (fen r) 0 E.P Q a w

theorem TmRel.set {ρ : Loc'} {tm : Tr V} {tmps : Array Value} (h : TmRel ρ tm tmps) (d : Nat) {v : V} {x : Value} (hv : DV ρ v x) : TmRel ρ (tm.set d v) (tmps.setIfInBounds d x) := by
  refine ⟨fun t u hu => ?_, fun t hu => ?_⟩
  · by_cases hd : d = t
    · subst hd
      cases hg : tm.get d with
      | none => rw [get_set_none _ hg, hg] at hu; cases hu
      | some z =>
        rw [get_set_eq _ hg] at hu
        cases hu
        obtain ⟨x', hx', _⟩ := h.some d z hg
        have hlt : d < tmps.size := (Array.getElem?_eq_some_iff.1 hx').1
        exact ⟨x, by simp [hlt], hv⟩
    · rw [get_set_ne _ hd] at hu
      obtain ⟨x', hx', hd'⟩ := h.some t u hu
      exact ⟨x', by rw [Array.getElem?_setIfInBounds_ne hd, hx'], hd'⟩
  · by_cases hd : d = t
    · subst hd
      cases hg : tm.get d with
      | none =>
        have := h.none d hg
        have hge : tmps.size ≤ d := by simpa using this
        simp; omega
      | some z => rw [get_set_eq _ hg] at hu; cases hu
    · rw [get_set_ne _ hd] at hu
      have := h.none t hu
      rw [Array.getElem?_setIfInBounds_ne hd, this]
theorem putZip_rel {ρ : Loc'} : ∀ {ps : List Tmp} {args : List V1} {xs : List Value} {tm : Tr V} {tmps : Array Value}, All2 (D1 ρ) args xs → TmRel ρ tm tmps →
    TmRel ρ (roundX.putZip ps args tm) ((ps.zip xs).foldl (fun t (p : Tmp × Value) => t.setIfInBounds p.1 p.2) tmps)
  | [], _, _, _, _, _, h => by simp [roundX.putZip]; exact h
  | _ :: _, _, _, _, _, .nil, h => by simp [roundX.putZip]; exact h
  | p :: ps, _, _, tm, tmps, .cons hx hr, h => by
    simp only [roundX.putZip, List.zip_cons_cons, List.foldl_cons]
    exact putZip_rel hr (h.set p (.s hx))

/-- The record of a range over a function, as it lies. -/
theorem loop_rec {W : Base} {ρ : Loc'} {m : Mem} {w : World} (h : MemRel W ρ m w) {b l : Nat} (hb : ρ b = some l) {s : LoopState} {p : Option Ex} {tm : Tr V} {ps : List Tmp} {as bo : Code} (hl : m.hp.get b = some (.loop s p tm ps as bo)) :
    ∃ rec : Loop, w.heap[l]? = some (.loop rec) ∧ rec.state = s ∧ rec.pending = p.map jumpC ∧ rec.params = ps.toArray ∧ rec.assign = as ∧ rec.body = bo ∧ TmRel ρ tm rec.tmps ∧
      ∀ s' p', MemRel W ρ (m.upd b (.loop s' p' tm ps as bo)) (w.putObj l (.loop { rec with state := s', pending := p'.map jumpC })) := by
  obtain ⟨_, _, k, ob, hk, hob, hdb⟩ := h.dom b l hb
  rw [hl] at hk; cases hk
  have hlt : l < w.heap.size := (Array.getElem?_eq_some_iff.1 hob).1
  cases hdb with
  | loop ht =>
    refine ⟨_, hob, rfl, rfl, rfl, rfl, rfl, ht, fun s' p' => ?_⟩
    refine h.upd hb (by rw [hl]; simp) (.loop ht) ?_ rfl rfl rfl (by simp) (World.putObj_heap_same hlt) (fun i hi => World.putObj_heap_other hi)
    have := h.size b l _ hb hob
    exact this
theorem upd_frm (m : Mem) (b : Nat) (k : Blk) : Frm m (m.upd b k) := Frm.upd m b k
theorem shut_frm : ∀ {ds : List Nat} {m m' : Mem}, shutX ds m = some m' → Frm m m'
  | [], m, m', h => by simp only [shutX, Option.some.injEq] at h; subst h; exact .refl _
  | b :: r, m, m', h => by
    simp only [shutX] at h
    split at h
    · exact (Frm.upd _ _ _).trans (shut_frm h)
    · cases h
theorem shut_sound {P : Program} {W : Base} {fn : Func} {tmps : Array Value} {R : Ending → World → Prop} : ∀ {ds : List Nat} {dl : List Deferred} {ρ : Loc'} {m m' : Mem} {w : World}, shutX ds m = some m' →
    All2 (fun b d => ∃ D, ρ b = some D ∧ d = ({ target := .collected D, args := #[] } : Deferred)) ds dl → MemRel W ρ m w →
    (∀ w', MemRel W ρ m' w' → Keep m.hn m m' ρ ρ → ∃ v, (results fn tmps).run P w' = .ok v w' ∧ R (.returned v) w') → LeavesInM Fence.wide 0 P fn tmps R dl .returning w
  | [], _, ρ, m, m', w, h, .nil, hm, hR => by
    simp only [shutX, Option.some.injEq] at h; subst h
    exact hR w hm (Keep.refl _ _ _)
  | b :: r, _, ρ, m, m', w, h, .cons ⟨D, hD, hd⟩ hr, hm, hR => by
    subst hd
    simp only [shutX] at h
    split at h
    · rename_i hb
      obtain ⟨_, _, k, ob, hk, hob, hdb⟩ := hm.dom b D hD
      rw [hb] at hk; cases hk
      have hsz := hm.size b D ob hD hob
      cases hdb with
      | dfr =>
        have hlt : D < w.heap.size := (Array.getElem?_eq_some_iff.1 hob).1
        refine ⟨by simp, .inl ⟨D, _, rfl, run_takeDeferred hob, ?_⟩⟩
        have hm1 := hm.upd hD (by rw [hb]; simp) (k := .gone) (o := .deferred none) .gone (by exact hsz) (w' := w.putObj D (.deferred none)) rfl rfl rfl (by simp) (World.putObj_heap_same hlt) (fun i hi => World.putObj_heap_other hi)
        exact shut_sound h hr hm1 fun w' h1 h2 => hR w' h1 ((Keep.upd hD).trans h2 (Nat.le_refl _))
    · cases h

theorem range_fen {P : Program} {g : Operand} {ps : Array Tmp} {assign body : Code} {Q : Exit → Act → World → Prop} {a : Act} {w : World} {gf : Nat} {vs lb : List Value}
    (hg : a.eval g = .func (.func gf) vs.toArray lb.toArray)
    (h : ∀ (rec : Loop), rec.state = .ready → rec.pending = none → rec.params = ps → rec.assign = assign → rec.body = body → rec.tmps = a.tmps →
      (callFunc gf (vs ++ (.func (.yield (w.heap.size + 1)) #[] #[] :: lb)).toArray).run P ((w.alloc (.deferred (some []))).alloc (.loop rec)) = .ok (.enter gf (vs ++ (.func (.yield (w.heap.size + 1)) #[] #[] :: lb)).toArray) ((w.alloc (.deferred (some []))).alloc (.loop rec)) ∧
      Calls P gf (vs ++ (.func (.yield (w.heap.size + 1)) #[] #[] :: lb)).toArray ((w.alloc (.deferred (some []))).alloc (.loop rec))
        (rangePost (fen none) 0 P (w.heap.size + 1) Q { a with defers := { target := .collected w.heap.size, args := #[] } :: a.defers })) :
    (Code.rangeFunc g ps assign body).wpIn (fen none) 0 P Q a w := by
  refine wpIn_rangeFunc ?_
  intro fn hfn
  obtain ⟨h1, h2⟩ := h { state := .ready, pending := none, fn, tmps := a.tmps, params := ps, assign, body, defers := w.heap.size } rfl rfl rfl rfl rfl rfl
  obtain ⟨W1, hW1⟩ : ∃ W1, (w.alloc (.deferred (some []))).alloc (.loop { state := .ready, pending := none, fn, tmps := a.tmps, params := ps, assign, body, defers := w.heap.size }) = W1 := ⟨_, rfl⟩
  rw [hW1] at h1 h2
  refine ⟨w.heap.size + 1, [{ target := .collected w.heap.size, args := #[] }], W1, { target := .fn (.func gf) lb.toArray, args := vs.toArray ++ #[.func (.yield (w.heap.size + 1)) #[] #[]] }, W1, gf,
    (vs ++ (.func (.yield (w.heap.size + 1)) #[] #[] :: lb)).toArray, W1, ?_, ?_, ?_, ?_, ?_, callsIn_fen h2⟩
  · rw [← hW1]; exact run_enterLoop_outer _ _ _ _ _
  · simp only [resolve, hg]
    have e : #[Operand.const (Value.func (.yield (w.heap.size + 1)) #[] #[])].map a.eval = #[Value.func (.yield (w.heap.size + 1)) #[] #[]] := by simp [Act.eval]
    rw [e]
    rfl
  · exact fun _ _ => True.intro
  · have e : vs.toArray ++ #[Value.func (.yield (w.heap.size + 1)) #[] #[]] ++ lb.toArray = (vs ++ (.func (.yield (w.heap.size + 1)) #[] #[] :: lb)).toArray := by
      apply Array.ext'; simp
    simp only [invoke, e]
    exact h1
  · exact fen_depth none

theorem range_fenN {P : Program} {g : Operand} {ps : Array Tmp} {assign body : Code} {Q : Exit → Act → World → Prop} {a : Act} {w : World} {gf l0 : Nat} {r0 : Loop} {vs lb : List Value} (hl0 : w.heap[l0]? = some (.loop r0))
    (hg : a.eval g = .func (.func gf) vs.toArray lb.toArray)
    (h : ∀ (rec : Loop), rec.state = .ready → rec.pending = none → rec.params = ps → rec.assign = assign → rec.body = body → rec.tmps = a.tmps →
      (callFunc gf (vs ++ (.func (.yield w.heap.size) #[] #[] :: lb)).toArray).run P (w.alloc (.loop rec)) = .ok (.enter gf (vs ++ (.func (.yield w.heap.size) #[] #[] :: lb)).toArray) (w.alloc (.loop rec)) ∧
      Calls P gf (vs ++ (.func (.yield w.heap.size) #[] #[] :: lb)).toArray (w.alloc (.loop rec)) (rangePost (fen (some l0)) 0 P w.heap.size Q a)) :
    (Code.rangeFunc g ps assign body).wpIn (fen (some l0)) 0 P Q a w := by
  refine wpIn_rangeFunc ?_
  intro fn hfn
  obtain ⟨h1, h2⟩ := h { state := .ready, pending := none, fn, tmps := a.tmps, params := ps, assign, body, defers := r0.defers } rfl rfl rfl rfl rfl rfl
  obtain ⟨W1, hW1⟩ : ∃ W1, w.alloc (.loop { state := .ready, pending := none, fn, tmps := a.tmps, params := ps, assign, body, defers := r0.defers }) = W1 := ⟨_, rfl⟩
  rw [hW1] at h1 h2
  refine ⟨w.heap.size, [], W1, { target := .fn (.func gf) lb.toArray, args := vs.toArray ++ #[.func (.yield w.heap.size) #[] #[]] }, W1, gf,
    (vs ++ (.func (.yield w.heap.size) #[] #[] :: lb)).toArray, W1, ?_, ?_, ?_, ?_, ?_, callsIn_fen h2⟩
  · rw [← hW1]
    show (Instr.enterLoop fn a.tmps ps assign body (some l0)).run P w = _
    unfold Instr.enterLoop
    simp only [Sem.run_bind, run_getLoop hl0, run_newObj_alloc, Result.andThen, Sem.run_pure]
  · simp only [resolve, hg]
    have e : #[Operand.const (Value.func (.yield w.heap.size) #[] #[])].map a.eval = #[Value.func (.yield w.heap.size) #[] #[]] := by simp [Act.eval]
    rw [e]
    rfl
  · exact fun _ _ => True.intro
  · have e : vs.toArray ++ #[Value.func (.yield w.heap.size) #[] #[]] ++ lb.toArray = (vs ++ (.func (.yield w.heap.size) #[] #[] :: lb)).toArray := by
      apply Array.ext'; simp
    simp only [invoke, e]
    exact h1
  · exact fen_depth (some l0)
/-- A range over a function within a round. -/
theorem rangeN_ok {E : Env} {W : Base} {run : Runs} (hR : RunOk E W run) {b : Nat} {g : Operand} {ps : Array Tmp} {assign body : Code} {st : St} {ex : Ex} {st' : St} (h : rangeNX run b g ps assign body st = some (ex, st')) :
    Frm st.m st'.m ∧ ∀ (r : Option Nat) (ρ : Loc') (a : Act) (w : World), RdOk (some b) r ρ → ρ.val = E.val → StRel W ρ st a w → ∀ Q : Exit → Act → World → Prop,
      (∀ ρ' a' w', Ext ρ ρ' → Keep st.m.hn st.m st'.m ρ ρ' → StRel W ρ' st' a' w' → Q (exOf ex) a' w') → (Code.rangeFunc g ps assign body).wpIn (fen r) 0 E.P Q a w := by
  unfold rangeNX at h
  split at h
  · rename_i f fs caps s0 p0 t0 q0 as0 bo0 hg hb0
    split at h
    · rename_i v m3 hcall
      split at h
      · rename_i s pend tm' ps' as' bo' hl
        have hfc := hR.frm _ _ _ _ _ _ hcall
        have key : s ≠ .busy ∧ ex = pendX pend ∧ st' = ⟨st.tm, m3.upd st.m.hn (.loop .exhausted pend tm' ps' as' bo'), st.ds⟩ := by
          cases s <;> simp only [Option.some.injEq, Prod.mk.injEq] at h <;> first | (cases h; done) | exact ⟨by simp, h.1.symm, h.2.symm⟩
        obtain ⟨hs1, rfl, rfl⟩ := key
        have f1 : Frm st.m (m3.upd st.m.hn (.loop .exhausted pend tm' ps' as' bo')) := (Frm.push _ _).trans (hfc.trans (upd_frm _ _ _))
        refine ⟨f1, fun r ρ a w hrd hV hs Q hQ => ?_⟩
        obtain ⟨l0, rfl, hρ0⟩ := hrd.rd
        obtain ⟨_, _, k0, o0, g1, g2, g3⟩ := hs.mem.dom b l0 hρ0
        rw [hb0] at g1; cases g1
        obtain ⟨r0, hr0⟩ : ∃ r0, w.heap[l0]? = some (.loop r0) := by
          cases g3 with
          | loop _ => exact ⟨_, g2⟩
        obtain ⟨vs, rs, hfv, hfs, hrs⟩ := (evc_sound hs hg).fn_inv
        refine range_fenN hr0 hfv fun rec e1 e2 e3 e4 e5 e6 => ?_
        have htm : TmRel ρ st.tm a.tmps := TmRel.mk hs.some hs.none
        have hrec : rec = { state := .ready, pending := (none : Option Ex).map jumpC, fn := rec.fn, tmps := a.tmps, params := ps.toList.toArray, assign := assign, body := body, defers := rec.defers } := by
          cases rec; simp at *; simp [*]
        have hd2 : DB ρ (.loop .ready none st.tm ps.toList assign body) (.loop rec) := by
          rw [hrec]; exact .loop htm
        have hp2 := hs.mem.push hd2
        have hE2 := Ext.add (s := osz (.loop rec)) (r := w.heap.size) hs.mem.hn_none
        generalize hρ2 : Loc'.add ρ st.m.hn w.heap.size (osz (.loop rec)) = ρ2 at *
        have b2 : ρ2 st.m.hn = some w.heap.size := by rw [← hρ2]; exact add_same _ _ _
        have hargs : All2 (D1 ρ2) (fstPtrs fs ++ (.one (.yl st.m.hn) :: capPtrs caps)) (vs ++ (.func (.yield w.heap.size) #[] #[] :: rs.map fun r => Value.pointer (some ⟨r, 0, none⟩))) :=
          (fstPtrs_sound (hfs.mono fun _ _ ⟨q, q1, q2⟩ => ⟨q, hE2.loc _ _ q1, q2⟩)).append (.cons (.one (.yl b2)) (capPtrs_sound (hrs.mono fun _ _ q => hE2.loc _ _ q)))
        obtain ⟨c1, c2⟩ := hR.calls _ _ _ _ _ hcall ρ2 _ _ (hE2.val.trans hV) hargs hp2
        refine ⟨c1, c2.mono ?_⟩
        rintro en w3 ⟨x, ρ3, rfl, x1, x2, x3, x4⟩
        obtain ⟨rec3, u1, u2, u3, u4, u5, u6, u7, u8⟩ := loop_rec x4 (x1.loc _ _ b2) hl
        have hend := run_endLoop (P := E.P) u1 (by rw [u2]; exact hs1)
        refine ⟨_, _, hend, ?_⟩
        have hm4 := u8 .exhausted pend
        have e8 : ({ rec3 with state := .exhausted, pending := pend.map jumpC } : Loop) = { rec3 with state := .exhausted } := by
          rw [← u3]
        rw [e8] at hm4
        have hE13 := hE2.trans x1
        have hst : StRel W ρ3 ⟨st.tm, m3.upd st.m.hn (.loop .exhausted pend tm' ps' as' bo'), st.ds⟩ a (w3.putObj w.heap.size (.loop { rec3 with state := .exhausted })) :=
          ⟨fun t v hv => let ⟨x, h1, h2⟩ := hs.some t v hv; ⟨x, h1, h2.mono hE13⟩, hs.none, hs.defers.mono fun _ _ ⟨D, q1, q2⟩ => ⟨D, hE13.loc _ _ q1, q2⟩, hm4⟩
        have hk : Keep st.m.hn st.m (m3.upd st.m.hn (.loop .exhausted pend tm' ps' as' bo')) ρ ρ3 := by
          have k1 : Keep st.m.hn st.m (st.m.push (.loop .ready none st.tm ps.toList assign body)) ρ ρ2 := by
            rw [← hρ2]
            exact Keep.push
          refine (k1.trans x2 (Nat.le_succ _)).trans (Keep.upd (n := st.m.hn) (x1.loc _ _ b2)) (Nat.le_refl _)
        have hfin := hQ ρ3 _ _ hE13 hk hst
        rw [u3] at hfin
        rw [u3]
        cases pend with
        | none => exact hfin
        | some e =>
          cases e with
          | normal => exact wpIn_skip hfin
          | exit id => exact wpIn_exit hfin
          | ret => exact wpIn_ret hfin
      · cases h
    · cases h
  · cases h
theorem round_parts {inner : Code → St → Option (Ex × St)} {b : Nat} {args : List V1} {m : Mem} {v : V} {m' : Mem} (h : roundX inner b args m = some (v, m')) :
    ∃ tm ps as bo st1 tm1 ps1 as1 bo1 ex st2 s2 p2 tm2 ps2 as2 bo2, m.hp.get b = some (.loop .ready none tm ps as bo) ∧ args.length = ps.length ∧ inner as ⟨roundX.putZip ps args tm, m, []⟩ = some (.normal, st1) ∧
      st1.m.hp.get b = some (.loop .ready none tm1 ps1 as1 bo1) ∧ inner bo ⟨st1.tm, st1.m.upd b (.loop .busy none tm1 ps1 as1 bo1), st1.ds⟩ = some (ex, st2) ∧
      st2.m.hp.get b = some (.loop s2 p2 tm2 ps2 as2 bo2) ∧ v = vb (jumpX ex).isNone ∧ m' = st2.m.upd b (.loop (stateX (jumpX ex)) (jumpX ex) tm2 ps2 as2 bo2) := by
  unfold roundX at h
  split at h
  · rename_i tm ps as bo hl
    cases hb : Nat.beq args.length ps.length with
    | false => rw [hb] at h; cases h
    | true =>
      rw [hb] at h
      simp only [cond_true] at h
      split at h
      · rename_i st1 h1
        split at h
        · rename_i tm1 ps1 as1 bo1 hl1
          split at h
          · rename_i ex st2 h2
            split at h
            · rename_i s2 p2 tm2 ps2 as2 bo2 hl2
              simp only [Option.some.injEq, Prod.mk.injEq] at h
              obtain ⟨rfl, rfl⟩ := h
              exact ⟨tm, ps, as, bo, st1, tm1, ps1, as1, bo1, ex, st2, s2, p2, tm2, ps2, as2, bo2, hl, beq_t hb, h1, hl1, h2, hl2, rfl, rfl⟩
            · cases h
          · cases h
        · cases h
      · cases h
  · cases h

theorem run_ok {E : Env} {W : Base} (hE : EnvOk E W) {code : Code → St → Option (Ex × St)} {inner : Nat → Code → St → Option (Ex × St)} (hC : CodeOk E W none code) (hI : ∀ b, CodeOk E W (some b) (inner b)) : RunOk E W (runX E.P code inner) := by
  have key : ∀ f args m v m', runX E.P code inner true f args m = some (v, m') → ∃ fn body tm ex st' l, E.P.funcs[f]? = some fn ∧ fn.body = some body ∧ enterX fn args = some tm ∧ code body ⟨tm, m, []⟩ = some (ex, st') ∧ (ex = .normal ∨ ex = .ret) ∧ shutX st'.ds st'.m = some m' ∧ resX E.P ⟨st'.tm, m', []⟩ fn.results.toList = some l ∧ v = packX l := by
    intro f args m v m' h
    unfold runX at h
    simp only [cond_true] at h
    split at h
    · rename_i fn hf
      split at h
      · rename_i body hb
        split at h
        · rename_i tm ht
          unfold endX at h
          split at h
          · rename_i st' hc
            split at h
            · rename_i m1 hs
              simp only [Option.map_eq_some_iff, Prod.mk.injEq] at h
              obtain ⟨l, h1, rfl, rfl⟩ := h
              exact ⟨fn, body, tm, _, st', l, hf, hb, ht, hc, .inl rfl, hs, h1, rfl⟩
            · cases h
          · rename_i st' hc
            split at h
            · rename_i m1 hs
              simp only [Option.map_eq_some_iff, Prod.mk.injEq] at h
              obtain ⟨l, h1, rfl, rfl⟩ := h
              exact ⟨fn, body, tm, _, st', l, hf, hb, ht, hc, .inr rfl, hs, h1, rfl⟩
            · cases h
          · cases h
        · cases h
      · cases h
    · cases h
  refine ⟨fun k f args m v m' h => ?_, fun b args m v m' h ρ xs w l hV hx hm hb => ?_, fun f args m v m' h ρ xs w hV hx hm => ?_⟩
  · cases k with
    | true =>
      obtain ⟨fn, body, tm, ex, st', l, _, _, _, hc, _, hs, _, _⟩ := key f args m v m' h
      exact (hC _ _ _ _ hc).1.trans (shut_frm hs)
    | false =>
      obtain ⟨tm, ps, as, bo, st1, tm1, ps1, as1, bo1, ex, st2, s2, p2, tm2, ps2, as2, bo2, hl, hlen, h1, hl1, h2, hl2, rfl, rfl⟩ := round_parts (show roundX (inner f) f args m = some (v, m') from h)
      exact (((hI _ _ _ _ _ h1).1.trans (upd_frm _ _ _)).trans (hI _ _ _ _ _ h2).1).trans (upd_frm _ _ _)
  · obtain ⟨tm, ps, as, bo, st1, tm1, ps1, as1, bo1, ex, st2, s2, p2, tm2, ps2, as2, bo2, hl, hlen, h1, hl1, h2, hl2, rfl, rfl⟩ := round_parts (show roundX (inner b) b args m = some (v, m') from h)
    obtain ⟨rec, r1, r2, r3, r4, rfl, rfl, r7, r8⟩ := loop_rec hm hb hl
    have hxl := hx.length
    have hy := run_yield (P := E.P) (args := xs.toArray) r1 (by rw [r4]; simp; omega)
    refine ⟨_, _, _, _, hy, roundIn_of_wpIn (F := Fence.wide) (n := 0) True.intro ?_⟩
    have htm : TmRel ρ (roundX.putZip ps args tm) ((rec.params.zip xs.toArray).foldl (fun t (p : Tmp × Value) => t.setIfInBounds p.1 p.2) rec.tmps) := by
      rw [r4]
      have e : (ps.toArray.zip xs.toArray).foldl (fun t (p : Tmp × Value) => t.setIfInBounds p.1 p.2) rec.tmps = (ps.zip xs).foldl (fun t (p : Tmp × Value) => t.setIfInBounds p.1 p.2) rec.tmps := by
        rw [← Array.foldl_toList]; simp
      rw [e]
      exact putZip_rel hx r7
    refine (hI _ _ _ _ _ h1).2 (some l) ρ _ w hb hV ⟨htm.some, htm.none, .nil, hm⟩ _ fun ρ1 a1 w1 k1 k2 k3 => ?_
    obtain ⟨rec1, q1, q2, q3, q4, q5, q6, q7, q8⟩ := loop_rec k3.mem (k1.loc _ _ hb) hl1
    refine ⟨_, run_beginRound q1 q2, ?_⟩
    have hm1 := q8 .busy none
    have e1 : ({ rec1 with state := .busy, pending := (none : Option Ex).map jumpC } : Loop) = { rec1 with state := .busy } := by
      have : rec1.pending = none := q3
      cases rec1
      simp at this ⊢
      exact this.symm
    rw [e1] at hm1
    have hf1 := (hI _ _ _ _ _ h1).1
    refine (hI _ _ _ _ _ h2).2 (some l) ρ1 a1 _ (k1.loc _ _ hb) (k1.val.trans hV) ⟨k3.some, k3.none, k3.defers, hm1⟩ _ fun ρ2 a2 w2 j1 j2 j3 => ?_
    obtain ⟨rec2, u1, u2, u3, u4, u5, u6, u7, u8⟩ := loop_rec j3.mem (j1.loc _ _ (k1.loc _ _ hb)) hl2
    have hkeep : ∀ k, Keep m.hn m (st2.m.upd b k) ρ ρ2 := fun k => by
      have a1 : Keep m.hn m (st1.m.upd b (.loop .busy none tm1 ps1 as1 bo1)) ρ ρ1 := k2.trans (Keep.upd (n := m.hn) (k1.loc _ _ hb)) (Nat.le_refl _)
      have a2 := a1.trans (j2.le (n' := m.hn) hf1.hn) (Nat.le_refl _)
      exact a2.trans (Keep.upd (n := m.hn) (j1.loc _ _ (k1.loc _ _ hb))) (Nat.le_refl _)
    cases ex with
    | normal =>
      have hend := run_endRound (P := E.P) none u1
      exact ⟨_, _, hend, .bool true, ρ2, rfl, k1.trans j1, hkeep _, .s (.one (.v rfl)), u8 .ready none⟩
    | ret =>
      have hend := run_endRound (P := E.P) (some .ret) u1
      exact ⟨_, _, hend, .bool false, ρ2, rfl, k1.trans j1, hkeep _, .s (.one (.v rfl)), u8 .done (some .ret)⟩
    | exit id =>
      have hend := run_endRound (P := E.P) (some (.exit id)) u1
      exact ⟨_, _, hend, .bool false, ρ2, rfl, k1.trans j1, hkeep _, .s (.one (.v rfl)), u8 .done (some (.exit id))⟩
  · obtain ⟨fn, body, tm, ex, st', l, hf, hb, ht, hc, hex, hs, hl, rfl⟩ := key f args m v m' h
    refine ⟨?_, ?_⟩
    · have hn : ¬ fn.name = "runtime.NumGoroutine" := by simpa using hE.name f fn hf
      simp [callFunc, hf, hn, hb]
    · refine callsIn_wide (n := 0).1 (callsIn_of_wp_marks hf hb True.intro ?_ rfl)
      refine (hC _ _ _ _ hc).2 none ρ _ w True.intro hV (enter_sound ht hx hm) _ fun ρ' a' w' h1 h2 h3 => ?_
      have hleave : LeavesInM Fence.wide 0 E.P fn a'.tmps (fun e w' => ∃ x ρ', e = .returned x ∧ Ext ρ ρ' ∧ Keep m.hn m m' ρ ρ' ∧ DV ρ' (packX l) x ∧ MemRel W ρ' m' w') a'.defers .returning w' := by
        refine shut_sound hs h3.defers h3.mem fun w'' g1 g2 => ?_
        have hst : StRel W ρ' ⟨st'.tm, m', []⟩ ⟨a'.tmps, []⟩ w'' := ⟨h3.some, h3.none, .nil, g1⟩
        obtain ⟨x, hx1, hx2⟩ := results_sound (P := E.P) hst hl
        exact ⟨x, hx2, x, ρ', rfl, h1, h2.trans (g2.le (hC _ _ _ _ hc).1.hn) (Nat.le_refl _), hx1, g1⟩
      rcases hex with rfl | rfl <;> exact hleave

theorem drawn_ok {E : Env} {W : Base} {run : Runs} (hE : EnvOk E W) (horc : ∀ i, E.orc i = none) (hR : RunOk E W run) {id : Nat} {ops : Array Oper} {st st' : St} (h : drawnX E run ops st = some st') :
    Frm st.m st'.m ∧ ∀ (r : Option Nat) (ρ : Loc') (a : Act) (w : World), ρ.val = E.val → StRel W ρ st a w → ∀ Q : Exit → Act → World → Prop,
      (∀ ρ' a' w', Ext ρ ρ' → Keep st.m.hn st.m st'.m ρ ρ' → StRel W ρ' st' a' w' → Q .normal a' w') → (Code.region id ops true).wpIn (fen r) 0 E.P Q a w := by
  unfold drawnX at h
  split at h
  · rename_i m1 hm1
    have hfa := aside_frm hm1
    have key : (∃ st1, Frm m1 st1.m ∧ Good E run ops st.m.hn st1 ops.size (Array.replicate ops.size false) [] ⟨st.tm, m1, st.ds⟩ ∧ st1 = st') ∨ drawO E run ops st m1 = some st' := by
      split at h
      · rename_i st1 h1
        simp only [Option.some.injEq] at h
        refine .inl ⟨st1, drawP_frm hR _ _ _ h1, ?_, h⟩
        exact drawP_good hR ops.size 0 (masksX ops ops.toList 0) (Array.replicate ops.size false) [] _ ops.size (by rw [masks_len]; simp) (Pre.zero ops) hfa.hn h1
      · split at h
        · rename_i st1 h1
          exact .inr (h1.trans h)
        · exact .inl ⟨st', draw_frm hR _ _ _ _ h, draw_good hR _ _ _ _ hfa.hn h, rfl⟩
    rcases key with ⟨st1, hfd, hgood, rfl⟩ | hO
    · refine ⟨hfa.trans hfd, fun r ρ a w hV hs Q hQ => ?_⟩
      obtain ⟨_, s2, s3, s4, s5⟩ := aside_spec (P := E.P) (pre := []) (m0 := st.m) hm1 (by simp) hs.mem.full
      refine any_wp (q := E.orc) hE hR hfa s2 s4 ⟨fun i b l t hq => ?_, fun i j b l t l' t' hq => ?_⟩ (fun i o ho hop => ?_) (fun i b l t hq => ?_) hgood r ρ a w hV hs Q hQ
      · have hq' : E.orc i = some (b, l, t) := hq
        rw [horc] at hq'; cases hq'
      · have hq' : E.orc i = some (b, l, t) := hq
        rw [horc] at hq'; cases hq'
      · have h5 := s5 i o (by simpa using ho) hop
        simp only [List.nil_append] at h5
        exact h5
      · rw [horc] at hq; cases hq
    · unfold drawO at hO
      split at hO
      · cases hO
      · rename_i p L hask
        have hR' : RunOk (E.at (orcOf m1.hn (p :: L))) W run := ⟨hR.frm, hR.rounds, hR.calls⟩
        have hfd : Frm (asideL (p :: L) m1) st'.m := drawP_frm hR' _ _ _ hO
        have hfr2 : Frm m1 (asideL (p :: L) m1) := asideL_frm
        refine ⟨(hfa.trans hfr2).trans hfd, fun r ρ a w hV hs Q hQ => ?_⟩
        obtain ⟨_, s2, s3, s4, s5⟩ := aside_spec (P := E.P) (pre := []) (m0 := st.m) hm1 (by simp) hs.mem.full
        have hcnt := aside_hn hm1
        obtain ⟨_, t2, t3, t4, t5⟩ := asideL_spec (L := p :: L) s2
        have hgood := drawP_good hR' ops.size 0 (masksX ops ops.toList 0) (Array.replicate ops.size false) [] _ ops.size (by rw [masks_len]; simp) (Pre.zero ops) (hfa.trans hfr2).hn hO
        refine any_wp (q := orcOf m1.hn (p :: L)) hE hR (hfa.trans hfr2) t3 (fun b hb => (t4 b (Nat.lt_of_lt_of_le hb hfa.hn)).trans (s4 b hb)) ⟨fun i b l t hq => ?_, fun i j b l t l' t' hq hq' => ?_⟩ (fun i o ho hop => ?_) (fun i b l t hq => ?_) hgood r ρ a w hV hs Q hQ
        · have := (t5 i b l t hq).1
          rw [hcnt] at this; exact this
        · obtain ⟨_, _, _, p1, k1, rfl⟩ := t5 i b l t hq
          obtain ⟨_, _, _, p2, k2, rfl⟩ := t5 j b l' t' hq'
          rw [k1] at k2
          rw [Option.some.inj k2]
        · have h5 := s5 i o (by simpa using ho) hop
          simp only [List.nil_append] at h5
          obtain ⟨k1, l, t, k2, k3⟩ := h5
          have k1' : st.m.hn + rank ops i < m1.hn := k1
          refine ⟨by omega, l, t, k2, ?_⟩
          exact (t4 _ k1').trans k3
        · obtain ⟨k1, k2, k3, _⟩ := t5 i b l t hq
          exact ⟨Nat.le_trans hfa.hn k1, k2, k3⟩
  · cases h
theorem code_ok {E : Env} {W : Base} (hE : EnvOk E W) (horc : ∀ i, E.orc i = none) : ∀ n rd, CodeOk E W rd (codeX E rd n)
  | 0 => fun rd c st ex st' h => by simp [codeX] at h
  | n + 1 => by
    intro rd
    have ih := code_ok hE horc n rd
    have hR := run_ok hE (code_ok hE horc n none) (fun b => code_ok hE horc n (some b))
    intro c st ex st' h
    unfold codeX at h
    simp only at h
    split at h
    · simp only [Option.some.injEq, Prod.mk.injEq] at h; obtain ⟨rfl, rfl⟩ := h
      exact ⟨.refl _, fun r ρ a w hrd hV hs Q hQ => wpIn_skip (hQ ρ a w (Ext.refl _) (Keep.refl _ _ _) hs)⟩
    · simp only [Option.some.injEq, Prod.mk.injEq] at h; obtain ⟨rfl, rfl⟩ := h
      exact ⟨.refl _, fun r ρ a w hrd hV hs Q hQ => wpIn_label (hQ ρ a w (Ext.refl _) (Keep.refl _ _ _) hs)⟩
    · simp only [Option.some.injEq, Prod.mk.injEq] at h; obtain ⟨rfl, rfl⟩ := h
      exact ⟨.refl _, fun r ρ a w hrd hV hs Q hQ => wpIn_ret (hQ ρ a w (Ext.refl _) (Keep.refl _ _ _) hs)⟩
    · simp only [Option.some.injEq, Prod.mk.injEq] at h; obtain ⟨rfl, rfl⟩ := h
      exact ⟨.refl _, fun r ρ a w hrd hV hs Q hQ => wpIn_exit (hQ ρ a w (Ext.refl _) (Keep.refl _ _ _) hs)⟩
    · -- a sequence
      rename_i x y
      split at h
      · rename_i st1 h1
        obtain ⟨f1, w1⟩ := ih _ _ _ _ h1
        obtain ⟨f2, w2⟩ := ih _ _ _ _ h
        refine ⟨f1.trans f2, fun r ρ a w hrd hV hs Q hQ => wpIn_seq (w1 r ρ a w hrd hV hs _ fun ρ' a' w' k1 k2 k3 => ?_)⟩
        exact w2 r ρ' a' w' (hrd.ext k1) (k1.val.trans hV) k3 Q fun ρ'' a'' w'' q1 q2 q3 => hQ ρ'' a'' w'' (k1.trans q1) (k2.trans q2 f1.hn) q3
      · rename_i hno
        obtain ⟨f1, w1⟩ := ih _ _ _ _ h
        refine ⟨f1, fun r ρ a w hrd hV hs Q hQ => wpIn_seq (w1 r ρ a w hrd hV hs _ fun ρ' a' w' k1 k2 k3 => ?_)⟩
        cases ex with
        | normal => exact absurd h (hno _)
        | exit id => exact hQ ρ' a' w' k1 k2 k3
        | ret => exact hQ ρ' a' w' k1 k2 k3
    · -- a branch
      rename_i x y z
      split at h
      · rename_i t hc
        cases t with
        | true =>
          simp only [cond_true] at h
          obtain ⟨f1, w1⟩ := ih _ _ _ _ h
          exact ⟨f1, fun r ρ a w hrd hV hs Q hQ => wpIn_cond_true (evc_sound hs hc).v_inv (w1 r ρ a w hrd hV hs Q hQ)⟩
        | false =>
          simp only [cond_false] at h
          obtain ⟨f1, w1⟩ := ih _ _ _ _ h
          exact ⟨f1, fun r ρ a w hrd hV hs Q hQ => wpIn_cond_false (evc_sound hs hc).v_inv (w1 r ρ a w hrd hV hs Q hQ)⟩
      · cases h
    · -- a block
      rename_i id b
      split at h
      · rename_i i st1 h1
        obtain ⟨f1, w1⟩ := ih _ _ _ _ h1
        cases hb : Nat.beq i id with
        | true =>
          rw [hb] at h
          simp only [cond_true, Option.some.injEq, Prod.mk.injEq] at h
          obtain ⟨rfl, rfl⟩ := h
          refine ⟨f1, fun r ρ a w hrd hV hs Q hQ => wpIn_block (w1 r ρ a w hrd hV hs _ fun ρ' a' w' k1 k2 k3 => ?_)⟩
          simp only [exOf, Exit.inBlock, beq_t hb, if_true]
          exact hQ ρ' a' w' k1 k2 k3
        | false =>
          rw [hb] at h
          simp only [cond_false, Option.some.injEq, Prod.mk.injEq] at h
          obtain ⟨rfl, rfl⟩ := h
          refine ⟨f1, fun r ρ a w hrd hV hs Q hQ => wpIn_block (w1 r ρ a w hrd hV hs _ fun ρ' a' w' k1 k2 k3 => ?_)⟩
          simp only [exOf, Exit.inBlock, beq_f hb, if_false]
          exact hQ ρ' a' w' k1 k2 k3
      · rename_i hno
        obtain ⟨f1, w1⟩ := ih _ _ _ _ h
        refine ⟨f1, fun r ρ a w hrd hV hs Q hQ => wpIn_block (w1 r ρ a w hrd hV hs _ fun ρ' a' w' k1 k2 k3 => ?_)⟩
        cases ex with
        | normal => exact hQ ρ' a' w' k1 k2 k3
        | exit i => exact absurd h (hno _ _)
        | ret => exact hQ ρ' a' w' k1 k2 k3
    · -- a loop
      rename_i b
      have key : ∀ k st ex st', k ≤ n + 1 → codeX E rd k (.loop b) st = some (ex, st') → Frm st.m st'.m ∧ ∀ (r : Option Nat) (ρ : Loc') (a : Act) (w : World), RdOk rd r ρ → ρ.val = E.val → StRel W ρ st a w → ∀ Q : Exit → Act → World → Prop,
          (∀ ρ' a' w', Ext ρ ρ' → Keep st.m.hn st.m st'.m ρ ρ' → StRel W ρ' st' a' w' → Q (exOf ex) a' w') → Code.roundsIn (fen r) 0 E.P b Q k a w := by
        intro k
        induction k with
        | zero => intro st ex st' _ hh; simp [codeX] at hh
        | succ k ihk =>
          intro st ex st' hk hh
          have ihc : CodeOk E W rd (codeX E rd k) := code_ok hE horc k rd
          unfold codeX at hh
          simp only at hh
          split at hh
          · rename_i st1 h1
            obtain ⟨f1, w1⟩ := ihc _ _ _ _ h1
            obtain ⟨f2, w2⟩ := ihk st1 ex st' (by omega) hh
            refine ⟨f1.trans f2, fun r ρ a w hrd hV hs Q hQ => ?_⟩
            rw [roundsIn_succ]
            refine w1 r ρ a w hrd hV hs _ fun ρ' a' w' k1 k2 k3 => ?_
            exact w2 r ρ' a' w' (hrd.ext k1) (k1.val.trans hV) k3 Q fun ρ'' a'' w'' q1 q2 q3 => hQ ρ'' a'' w'' (k1.trans q1) (k2.trans q2 f1.hn) q3
          · rename_i hno
            obtain ⟨f1, w1⟩ := ihc _ _ _ _ hh
            refine ⟨f1, fun r ρ a w hrd hV hs Q hQ => ?_⟩
            rw [roundsIn_succ]
            refine w1 r ρ a w hrd hV hs _ fun ρ' a' w' k1 k2 k3 => ?_
            cases ex with
            | normal => exact absurd hh (hno _)
            | exit id => exact hQ ρ' a' w' k1 k2 k3
            | ret => exact hQ ρ' a' w' k1 k2 k3
      have hh : codeX E rd (n + 1) (.loop b) st = some (ex, st') := by unfold codeX; exact h
      obtain ⟨f1, w1⟩ := key (n + 1) st ex st' (Nat.le_refl _) hh
      exact ⟨f1, fun r ρ a w hrd hV hs Q hQ => wpIn_loop_rounds (n + 1) (w1 r ρ a w hrd hV hs Q hQ)⟩
    · -- a scope
      rename_i b
      cases rd with
      | some _ => cases h
      | none =>
        simp only [Option.isSome, cond_false] at h
        obtain ⟨f1, w1⟩ := ih _ _ _ _ h
        refine ⟨f1, fun r ρ a w hrd hV hs Q hQ => ?_⟩
        cases r with
        | some _ => cases hrd
        | none =>
          refine (wpIn_wide (n := 0)).2 (wp_scope_straight ((wpIn_wide (n := 0)).1 (w1 none ρ a w True.intro hV hs _ fun ρ' a' w' k1 k2 k3 => ?_)))
          cases ex <;> exact hQ ρ' a' w' k1 k2 k3
    · -- a region
      rename_i id ops
      simp only [Option.map_eq_some_iff, Prod.mk.injEq] at h
      obtain ⟨st1, h1, rfl, rfl⟩ := h
      refine ⟨ops_frm hR h1, fun r ρ a w hrd hV hs Q hQ => wpIn_region ?_⟩
      have := ops_wp (Q := Q) r hE hR hV (k := 0) (by simp) h1 hs fun ρ' a' w' k1 k2 k3 => hQ ρ' a' w' k1 k2 k3
      rw [List.range_eq_range']
      simpa using this
    · -- a region that draws
      rename_i id ops
      simp only [Option.map_eq_some_iff, Prod.mk.injEq] at h
      obtain ⟨st1, h1, rfl, rfl⟩ := h
      obtain ⟨k1, k2⟩ := drawn_ok (id := id) hE horc hR h1
      exact ⟨k1, fun r ρ a w hrd hV hs Q hQ => k2 r ρ a w hV hs Q hQ⟩
    · -- a range over a function
      rename_i g ps assign body
      cases rd with
      | some b0 => exact rangeN_ok hR h
      | none =>
        simp only at h
        split at h
        · rename_i f fs caps hg
          split at h
          · rename_i v m3 hcall
            split at h
            · rename_i s pend tm' ps' as' bo' hl
              have hfc := hR.frm _ _ _ _ _ _ hcall
              have key : s ≠ .busy ∧ ex = pendX pend ∧ st' = ⟨st.tm, m3.upd (st.m.push .dfr).hn (.loop .exhausted pend tm' ps' as' bo'), st.m.hn :: st.ds⟩ := by
                cases s <;> simp only [Option.some.injEq, Prod.mk.injEq] at h <;> first | (cases h; done) | exact ⟨by simp, h.1.symm, h.2.symm⟩
              obtain ⟨hs1, rfl, rfl⟩ := key
              have f1 : Frm st.m (m3.upd (st.m.push .dfr).hn (.loop .exhausted pend tm' ps' as' bo')) := ((Frm.push _ _).trans (Frm.push _ _)).trans (hfc.trans (upd_frm _ _ _))
              refine ⟨f1, fun r ρ a w hrd hV hs Q hQ => ?_⟩
              cases r with
              | some _ => cases hrd
              | none =>
                obtain ⟨vs, rs, hfv, hfs, hrs⟩ := (evc_sound hs hg).fn_inv
                refine range_fen hfv fun rec e1 e2 e3 e4 e5 e6 => ?_
                have hp1 := hs.mem.push (k := .dfr) (o := .deferred (some [])) .dfr
                have hE1 : Ext ρ (Loc'.add ρ st.m.hn w.heap.size (osz (.deferred (some [])))) := Ext.add hs.mem.hn_none
                have htm : TmRel (Loc'.add ρ st.m.hn w.heap.size (osz (.deferred (some [])))) st.tm a.tmps := (TmRel.mk hs.some hs.none).mono hE1
                have hrec : rec = { state := .ready, pending := (none : Option Ex).map jumpC, fn := rec.fn, tmps := a.tmps, params := ps.toList.toArray, assign := assign, body := body, defers := rec.defers } := by
                  cases rec; simp at *; simp [*]
                have hd2 : DB (Loc'.add ρ st.m.hn w.heap.size (osz (.deferred (some [])))) (.loop .ready none st.tm ps.toList assign body) (.loop rec) := by
                  rw [hrec]; exact .loop htm
                have hp2 := hp1.push hd2
                have hE2 := Ext.add (s := osz (.loop rec)) (r := w.heap.size + 1) hp1.hn_none
                have e7 : ({ w with heap := w.heap.push (Obj.deferred (some [])) } : World).heap.size = w.heap.size + 1 := by simp
                rw [e7] at hp2
                generalize hρ1 : Loc'.add ρ st.m.hn w.heap.size (osz (.deferred (some []))) = ρ1 at *
                generalize hρ2 : Loc'.add ρ1 (st.m.push .dfr).hn (w.heap.size + 1) (osz (.loop rec)) = ρ2 at *
                have b1 : ρ2 st.m.hn = some w.heap.size := hE2.loc _ _ (by rw [← hρ1]; exact add_same _ _ _)
                have b2 : ρ2 (st.m.push .dfr).hn = some (w.heap.size + 1) := by rw [← hρ2]; exact add_same _ _ _
                have hE12 := hE1.trans hE2
                have hargs : All2 (D1 ρ2) (fstPtrs fs ++ (.one (.yl (st.m.push .dfr).hn) :: capPtrs caps)) (vs ++ (.func (.yield (w.heap.size + 1)) #[] #[] :: rs.map fun r => Value.pointer (some ⟨r, 0, none⟩))) :=
                  (fstPtrs_sound (hfs.mono fun _ _ ⟨q, q1, q2⟩ => ⟨q, hE12.loc _ _ q1, q2⟩)).append (.cons (.one (.yl b2)) (capPtrs_sound (hrs.mono fun _ _ q => hE12.loc _ _ q)))
                obtain ⟨c1, c2⟩ := hR.calls _ _ _ _ _ hcall ρ2 _ _ (hE12.val.trans hV) hargs hp2
                refine ⟨c1, c2.mono ?_⟩
                rintro en w3 ⟨x, ρ3, rfl, x1, x2, x3, x4⟩
                obtain ⟨rec3, u1, u2, u3, u4, u5, u6, u7, u8⟩ := loop_rec x4 (x1.loc _ _ b2) hl
                have hend := run_endLoop (P := E.P) u1 (by rw [u2]; exact hs1)
                refine ⟨_, _, hend, ?_⟩
                have hm4 := u8 .exhausted pend
                have e8 : ({ rec3 with state := .exhausted, pending := pend.map jumpC } : Loop) = { rec3 with state := .exhausted } := by
                  rw [← u3]
                rw [e8] at hm4
                have hE13 := hE12.trans x1
                have hst : StRel W ρ3 ⟨st.tm, m3.upd (st.m.push .dfr).hn (.loop .exhausted pend tm' ps' as' bo'), st.m.hn :: st.ds⟩ { a with defers := { target := .collected w.heap.size, args := #[] } :: a.defers } (w3.putObj (w.heap.size + 1) (.loop { rec3 with state := .exhausted })) :=
                  ⟨fun t v hv => let ⟨x, h1, h2⟩ := hs.some t v hv; ⟨x, h1, h2.mono hE13⟩, hs.none, .cons ⟨_, x1.loc _ _ b1, rfl⟩ (hs.defers.mono fun _ _ ⟨D, q1, q2⟩ => ⟨D, hE13.loc _ _ q1, q2⟩), hm4⟩
                have hk : Keep st.m.hn st.m (m3.upd (st.m.push .dfr).hn (.loop .exhausted pend tm' ps' as' bo')) ρ ρ3 := by
                  have k1 : Keep st.m.hn st.m ((st.m.push .dfr).push (.loop .ready none st.tm ps.toList assign body)) ρ ρ2 := by
                    rw [← hρ2, ← hρ1]
                    exact Keep.push.trans Keep.push (Nat.le_succ _)
                  refine (k1.trans x2 (Nat.le_trans (Nat.le_succ _) (Nat.le_succ _))).trans (Keep.upd (n := st.m.hn) (x1.loc _ _ b2)) (Nat.le_refl _)
                have hfin := hQ ρ3 _ _ hE13 hk hst
                rw [u3] at hfin
                rw [u3]
                cases pend with
                | none => exact hfin
                | some e =>
                  cases e with
                  | normal => exact wpIn_skip hfin
                  | exit id => exact wpIn_exit hfin
                  | ret => exact wpIn_ret hfin
            · cases h
          · cases h
        · cases h
    · cases h
end Go.Ry
