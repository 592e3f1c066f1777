/-
  THE RUNNER IS SOUND, part 9: a region that draws its order.
-/
import Derived.Test.YteaglhkacfcgfaaRxJ
namespace Go.Rx
open Go Go.RowKit

section
variable {E : Env} {run : Runs} {ops : Array Oper} {hn0 : Nat} {bs : List (Nat × Nat)} {fin : St}

/-- One step of such a region, floating or not. -/
def stepD (E : Env) (run : Runs) (ops : Array Oper) (hn0 : Nat) (bs : List (Nat × Nat)) (st : St) (j : Nat) (o : Oper) : Option (V × Mem) :=
  match floatX E ops hn0 st j o with
  | some (v, _) => some (v, st.m)
  | none => heavyX E run hn0 bs st o

/-- Whatever order is picked, the runner comes to one state. -/
def Good (E : Env) (run : Runs) (ops : Array Oper) (hn0 : Nat) (fin : St) : Nat → Array Bool → List (Nat × Nat) → St → Prop
  | 0, listed, _, st => Region.ready .any ops listed = [] ∧ st = fin
  | fuel + 1, listed, bs, st => (Region.ready .any ops listed = [] → st = fin) ∧
    ∀ j, j ∈ Region.ready .any ops listed → ∀ o, ops[j]? = some o → ∃ v m, stepD E run ops hn0 bs st j o = some (v, m) ∧ Good E run ops hn0 fin fuel (listed.setIfInBounds j true) bs (St.put ⟨st.tm, m⟩ o.dst v)

theorem spares_less {p : Nat × Nat} {st : St} {o : Oper} {wr : Nat} (h : spares hn0 (p :: bs) st o wr = true) : spares hn0 bs st o wr = true := by
  unfold spares at *
  cases hb : Nat.ble hn0 wr with
  | true => rfl
  | false =>
    rw [hb] at h
    simp only [Bool.false_or, List.all_cons, Bool.and_eq_true] at h ⊢
    exact h.2
theorem heavy_less {p : Nat × Nat} {st : St} {o : Oper} {r : V × Mem} (h : heavyX E run hn0 (p :: bs) st o = some r) : heavyX E run hn0 bs st o = some r := by
  unfold heavyX at *
  split at h
  · rename_i v m hop
    cases hs : spares hn0 (p :: bs) st o m.wr with
    | false => rw [hs] at h; cases h
    | true => rw [hs] at h; rw [spares_less hs]; exact h
  · cases h
theorem step_less {p : Nat × Nat} {st : St} {j : Nat} {o : Oper} {r : V × Mem} (h : stepD E run ops hn0 (p :: bs) st j o = some r) : stepD E run ops hn0 bs st j o = some r := by
  unfold stepD at *
  split at h
  · exact h
  · exact heavy_less h
theorem good_less {p : Nat × Nat} : ∀ {fuel : Nat} {listed : Array Bool} {bs : List (Nat × Nat)} {st : St}, Good E run ops hn0 fin fuel listed (p :: bs) st → Good E run ops hn0 fin fuel listed bs st
  | 0, _, _, _, h => h
  | fuel + 1, _, _, _, h => ⟨h.1, fun j hj o ho => by
    obtain ⟨v, m, h1, h2⟩ := h.2 j hj o ho
    exact ⟨v, m, step_less h1, good_less h2⟩⟩
theorem good_look {i : Nat} {b : Option Nat} {fuel : Nat} {listed : Array Bool} {st : St} (h : Good E run ops hn0 fin fuel listed (withLook i b bs) st) : Good E run ops hn0 fin fuel listed bs st := by
  cases b with
  | none => exact h
  | some b => exact good_less h

/-! ### A value put into a slot that an operation does not look at -/
theorem eval_put {st : St} {d : Option Tmp} {v : V} {x : Operand} (h : ∀ t, d = some t → x ≠ .tmp t) : (st.put d v).eval x = st.eval x := by
  cases d with
  | none => rfl
  | some t =>
    cases x with
    | tmp u =>
      have : t ≠ u := fun e => h t rfl (by rw [e])
      exact get_set_ne _ this
    | _ => rfl
theorem evs_put {st : St} {o : Oper} {d : Option Tmp} {v : V} (h : ∀ t, d = some t → t ∉ o.looksAt ops) : ∀ x ∈ o.op.operands, (st.put d v).eval x = st.eval x := fun x hx =>
  eval_put fun t ht hxt => h t ht (by
    subst hxt
    exact List.mem_append_left _ (List.mem_filterMap.2 ⟨.tmp t, by simpa using hx, rfl⟩))
theorem wanted_put' {st : St} {o : Oper} {d : Option Tmp} {v : V} (h : ∀ t, d = some t → t ∉ o.looksAt ops) : wantedX ops (st.put d v) o = wantedX ops st o := by
  unfold wantedX
  cases hg : o.guard with
  | none => rfl
  | some g =>
    obtain ⟨j, want⟩ := g
    show (yieldedX ops (st.put d v) j == some want) = (yieldedX ops st j == some want)
    congr 1
    unfold yieldedX
    cases hd : (ops[j]?).bind (·.dst) with
    | none => rfl
    | some t =>
      have hne : ∀ u, d = some u → u ≠ t := fun u hu e => h u hu (by
        subst e
        exact List.mem_append_right _ (by rw [hg]; simp [hd]))
      simp only
      cases d with
      | none => rfl
      | some u =>
        have : (St.put st (some u) v).tm.get t = st.tm.get t := get_set_ne _ (hne u rfl)
        rw [this]
theorem float_put {st : St} {o : Oper} {j : Nat} {d : Option Tmp} {v : V} (h : ∀ t, d = some t → t ∉ o.looksAt ops) {m : Mem} (hm : ∀ b, looksAt st o = some (some b) → m.hp.get b = st.m.hp.get b) :
    floatX E ops hn0 (St.put ⟨st.tm, m⟩ d v) j o = floatX E ops hn0 st j o := by
  have hev : ∀ x ∈ o.op.operands, (St.put ⟨st.tm, m⟩ d v).eval x = st.eval x := fun x hx => (evs_put h x hx).trans (by cases x <;> rfl)
  have hw : wantedX ops (St.put ⟨st.tm, m⟩ d v) o = wantedX ops st o := (wanted_put' h).trans rfl
  have hl : looksAt (St.put ⟨st.tm, m⟩ d v) o = looksAt st o := looksAt_like hev
  have hp : pureO E (St.put ⟨st.tm, m⟩ d v) o = pureO E st o := by
    refine pureO_like E hev fun b hb => ?_
    rw [hl] at hb
    rw [put_m]
    exact hm b hb
  unfold floatX
  rw [hw, hl, hp]
theorem like_put {st : St} {o : Oper} {d : Option Tmp} {v : V} (h : ∀ t, d = some t → t ∉ o.looksAt ops) (m : Mem) : Like ⟨(st.put d v).tm, m⟩ ⟨st.tm, m⟩ o :=
  ⟨fun x hx => by
    have := evs_put (st := st) (v := v) h x hx
    cases x with
    | tmp t => exact this
    | _ => rfl, rfl⟩
theorem step_put {st : St} {o : Oper} {j : Nat} {d : Option Tmp} {v : V} (h : ∀ t, d = some t → t ∉ o.looksAt ops) : stepD E run ops hn0 bs (st.put d v) j o = stepD E run ops hn0 bs st j o := by
  have hf : floatX E ops hn0 (st.put d v) j o = floatX E ops hn0 st j o := float_put (m := st.m) h fun _ _ => rfl
  unfold stepD
  rw [hf, put_m]
  have hh : heavyX E run hn0 bs (st.put d v) o = heavyX E run hn0 bs st o := by
    unfold heavyX
    rw [put_m, op_like (like_put h ⟨st.m.hp, st.m.hn, st.m.hn⟩)]
    have hs : ∀ wr, spares hn0 bs (st.put d v) o wr = spares hn0 bs st o wr := fun wr => by
      unfold spares
      rw [hits_like (evs_put h)]
    simp only [hs]
  rw [hh]

/-! ### What a step leaves as it was -/
theorem hits_mem {P : Program} {st : St} {o : Oper} {v : V} {m' : Mem} {wb : Nat} (hh : hitsX st o = some wb) (hv : memX P st o = some (v, m')) : ∀ b, b ≠ wb → m'.hp.get b = st.m.hp.get b := by
  intro b hb
  obtain ⟨dst, op, type, pos, after, guard⟩ := o
  unfold hitsX at hh
  simp only at hh
  split at hh
  · rename_i t x y
    split at hh
    · rename_i b0 o' hx
      simp only [Option.some.injEq] at hh; subst hh
      unfold memX at hv
      simp only [hx] at hv
      split at hv
      · rename_i b1 o1 y' s h1 hy hs
        simp only [Option.some.injEq, C.ptr.injEq] at h1
        obtain ⟨rfl, rfl⟩ := h1
        cases hc : Nat.beq y'.cells.length s && oneCells y'.cells with
        | false => simp [hc] at hv
        | true =>
          simp only [hc, cond_true] at hv
          split at hv
          · simp only [Option.map_eq_some_iff, Prod.mk.injEq] at hv
            obtain ⟨l', _, _, rfl⟩ := hv
            exact get_set_ne _ (Ne.symm hb)
          · cases hv
      · cases hv
    · cases hh
  · rename_i args ts
    unfold memX at hv
    simp only at hv
    split at hv
    · rename_i d s t hargs ht
      rw [hargs] at hh
      simp only at hh
      split at hh
      · rename_i b0 o0 n0 c0 hd0
        simp only [Option.some.injEq] at hh; subst hh
        split at hv
        · rename_i b1 o' n cp y e hd hy hu
          rw [hd0] at hd
          simp only [Option.some.injEq, C.sl.injEq] at hd
          obtain ⟨rfl, rfl, rfl, rfl⟩ := hd
          split at hv
          · rename_i cs l e' hsz hrow hl
            cases hc : oneCells (cs.take n0) with
            | false => simp [hc] at hv
            | true =>
              simp only [hc, cond_true, Option.map_eq_some_iff, Prod.mk.injEq] at hv
              obtain ⟨l', _, _, rfl⟩ := hv
              exact get_set_ne _ (Ne.symm hb)
          · cases hv
        · cases hv
      · cases hh
    · cases hv
  · cases hh
theorem hits_op {st : St} {o : Oper} {v : V} {m' : Mem} {wb : Nat} (hh : hitsX st o = some wb) (hv : opX E run st o = some (v, m')) : ∀ b, b ≠ wb → m'.hp.get b = st.m.hp.get b := by
  unfold opX at hv
  split at hv
  · simp only [Option.some.injEq, Prod.mk.injEq] at hv; obtain ⟨_, rfl⟩ := hv; exact fun _ _ => rfl
  · unfold actX at hv
    split at hv
    · rename_i f args ts hop
      unfold hitsX at hh
      rw [hop] at hh
      simp at hh
    · exact hits_mem hh hv
theorem heavy_frm (hR : RunOk E run) {st : St} {o : Oper} {v : V} {m : Mem} (h : heavyX E run hn0 bs st o = some (v, m)) : Frm st.m m := by
  unfold heavyX at h
  split at h
  · rename_i u m1 hop
    cases hs : spares hn0 bs st o m1.wr with
    | false => rw [hs] at h; cases h
    | true =>
      rw [hs] at h
      simp only [cond_true, Option.some.injEq, Prod.mk.injEq] at h
      obtain ⟨rfl, rfl⟩ := h
      have hf := op_frm hR hop
      refine ⟨hf.hn, ?_, fun b h1 h2 => ?_⟩
      · cases hb : Nat.ble st.m.wr m1.wr with
        | true => simp
        | false => have := ble_f hb; simp; omega
      · refine hf.get b ?_ h2
        simp only at h1
        cases hb : Nat.ble st.m.wr m1.wr with
        | true => rw [hb] at h1; have := ble_t hb; simp at h1; omega
        | false => rw [hb] at h1; simpa using h1
  · cases h
theorem step_frm (hR : RunOk E run) {st : St} {j : Nat} {o : Oper} {v : V} {m : Mem} (h : stepD E run ops hn0 bs st j o = some (v, m)) : Frm st.m m := by
  unfold stepD at h
  split at h
  · simp only [Option.some.injEq, Prod.mk.injEq] at h; obtain ⟨_, rfl⟩ := h; exact .refl _
  · exact heavy_frm hR h
/-- The look i sees what it saw, behind a step that does not wait for it. -/
theorem step_spares (hR : RunOk E run) {i b : Nat} {st : St} {j : Nat} {o : Oper} {v : V} {m : Mem} (h : stepD E run ops hn0 ((i, b) :: bs) st j o = some (v, m)) (hb : b < hn0) (hn : hn0 ≤ st.m.hn) (hw : waitsFor o i = false) :
    m.hp.get b = st.m.hp.get b := by
  unfold stepD at h
  split at h
  · simp only [Option.some.injEq, Prod.mk.injEq] at h; obtain ⟨_, rfl⟩ := h; rfl
  · unfold heavyX at h
    split at h
    · rename_i u m1 hop
      cases hs : spares hn0 ((i, b) :: bs) st o m1.wr with
      | false => rw [hs] at h; cases h
      | true =>
        rw [hs] at h
        simp only [cond_true, Option.some.injEq, Prod.mk.injEq] at h
        obtain ⟨rfl, rfl⟩ := h
        simp only
        unfold spares at hs
        cases hbl : Nat.ble hn0 m1.wr with
        | true =>
          have := ble_t hbl
          exact (op_frm hR hop).get b (by omega) (by simp only; omega)
        | false =>
          rw [hbl] at hs
          simp only [Bool.false_or, List.all_cons, Bool.and_eq_true, hw] at hs
          have h1 := hs.1
          split at h1
          · rename_i wb hwb
            have hne : b ≠ wb := fun e => by subst e; simp at h1
            exact hits_op (E := E) (run := run) (st := ⟨st.tm, ⟨st.m.hp, st.m.hn, st.m.hn⟩⟩) (by rw [← hwb]; exact hits_like fun x _ => by cases x <;> rfl) hop b hne
          · cases h1
    · cases h

theorem float_look {st : St} {i : Nat} {o : Oper} {v : V} {b : Option Nat} (h : floatX E ops hn0 st i o = some (v, b)) :
    (∀ q, looksAt st o = some (some q) → wantedX ops st o = true → b = some q ∨ isAlloc o = true) ∧ ∀ q, b = some q → q < hn0 := by
  unfold floatX at h
  cases hw : wantedX ops st o with
  | false =>
    rw [hw] at h
    simp only [cond_false, Option.some.injEq, Prod.mk.injEq] at h
    obtain ⟨_, rfl⟩ := h
    exact ⟨fun q _ hc => (by cases hc), fun q hq => (by cases hq)⟩
  | true =>
    rw [hw] at h
    simp only [cond_true] at h
    cases ha : isAlloc o with
    | true =>
      rw [ha] at h
      simp only [cond_true, Option.some.injEq, Prod.mk.injEq] at h
      obtain ⟨_, rfl⟩ := h
      exact ⟨fun q _ _ => .inr rfl, fun q hq => (by cases hq)⟩
    | false =>
      rw [ha] at h
      simp only [cond_false] at h
      split at h
      · rename_i hl
        simp only [Option.map_eq_some_iff, Prod.mk.injEq] at h
        obtain ⟨_, _, _, rfl⟩ := h
        exact ⟨fun q hq => (by rw [hl] at hq; cases hq), fun q hq => (by cases hq)⟩
      · rename_i q0 hl
        cases hb : Nat.blt q0 hn0 with
        | false => rw [hb] at h; cases h
        | true =>
          rw [hb] at h
          simp only [cond_true, Option.map_eq_some_iff, Prod.mk.injEq] at h
          obtain ⟨_, _, _, rfl⟩ := h
          exact ⟨fun q hq _ => .inl (by rw [hl] at hq; cases hq; rfl), fun q hq => (by cases hq; exact ble_t hb)⟩
      · cases h

theorem put_put {st : St} {m : Mem} {d d' : Option Tmp} {v v' : V} (h : ∀ t, d = some t → d' ≠ some t) :
    St.put ⟨(st.put d v).tm, m⟩ d' v' = (St.put ⟨st.tm, m⟩ d' v').put d v := by
  cases d with
  | none => cases d' <;> rfl
  | some t =>
    cases d' with
    | none => rfl
    | some u =>
      have hne : t ≠ u := fun e => h t rfl (by rw [e])
      simp only [St.put]
      rw [set_comm _ hne]

theorem waits_none {o : Oper} {i : Nat} (h : ∀ e ∈ o.after, Region.binds .any e = true → e.on ≠ i) : waitsFor o i = false := by
  unfold waitsFor
  rw [Array.any_eq_false]
  intro k hk hc
  simp only [Bool.and_eq_true] at hc
  exact h _ (Array.getElem_mem hk) hc.2 (beq_t hc.1)

/-- An operation that floats may be taken first. -/
theorem good_take (hR : RunOk E run) {i : Nat} {oi : Oper} {v : V} {b : Option Nat} (hi : ops[i]? = some oi) :
    ∀ (fuel : Nat) (listed : Array Bool) (bs : List (Nat × Nat)) (st : St), hn0 ≤ st.m.hn → floatX E ops hn0 st i oi = some (v, b) →
      (∀ j oj, ops[j]? = some oj → j ≠ i → listed.getD j true = false → (∀ e ∈ oj.after, Region.binds .any e = true → e.on ≠ i) → oi.apart ops oj = true) →
      i ∈ Region.ready .any ops listed → Good E run ops hn0 fin fuel (listed.setIfInBounds i true) (withLook i b bs) (st.put oi.dst v) → Good E run ops hn0 fin (fuel + 1) listed bs st := by
  intro fuel
  induction fuel with
  | zero =>
    intro listed bs st hn hf hfree hr H
    refine ⟨fun h0 => (by rw [h0] at hr; cases hr), fun j hj o ho => ?_⟩
    by_cases hji : j = i
    · subst hji
      rw [hi] at ho; cases ho
      exact ⟨v, st.m, by unfold stepD; rw [hf], good_look H⟩
    · have h1 := ready_mono hj hji
      rw [H.1] at h1
      cases h1
  | succ fuel ih =>
    intro listed bs st hn hf hfree hr H
    refine ⟨fun h0 => (by rw [h0] at hr; cases hr), fun j hj o ho => ?_⟩
    by_cases hji : j = i
    · subst hji
      rw [hi] at ho; cases ho
      exact ⟨v, st.m, by unfold stepD; rw [hf], good_look H⟩
    · obtain ⟨vj, mj, hs, hg⟩ := H.2 j (ready_mono hj hji) o ho
      obtain ⟨hjun, oj, hoj, hall⟩ := mem_ready.1 hj
      rw [ho] at hoj; cases hoj
      have hnot : ∀ e ∈ o.after, Region.binds .any e = true → e.on ≠ i := fun e he hb heq => by
        have h1 := hall e he hb
        have h0 := (mem_ready.1 hr).1
        rw [heq] at h1
        rcases Nat.lt_or_ge i listed.size with h' | h'
        · simp [h'] at h0 h1; rw [h0] at h1; cases h1
        · simp [Array.getElem?_eq_none h'] at h1
      obtain ⟨a1, a2, a3⟩ := Oper.apart_spec (hfree j o ho hji hjun hnot)
      rw [step_put a1] at hs
      have hsb : stepD E run ops hn0 bs st j o = some (vj, mj) := by
        cases b with
        | none => exact hs
        | some q => exact step_less hs
      have hfr := step_frm hR hs
      refine ⟨vj, mj, hsb, ?_⟩
      have hfl := float_look hf
      have hlook : wantedX ops st oi = true → isAlloc oi = false → ∀ q, looksAt st oi = some (some q) → mj.hp.get q = st.m.hp.get q := fun hw ha q hq => by
        rcases hfl.1 q hq hw with hb | hb
        · subst hb
          exact step_spares hR hs (hfl.2 q rfl) hn (waits_none hnot)
        · rw [ha] at hb; cases hb
      have hf' : floatX E ops hn0 (St.put ⟨st.tm, mj⟩ o.dst vj) i oi = some (v, b) := by
        cases hw : wantedX ops st oi with
        | false =>
          have hw' : wantedX ops (St.put ⟨st.tm, mj⟩ o.dst vj) oi = false := (wanted_put' a3).trans hw
          unfold floatX at hf ⊢
          rw [hw] at hf; rw [hw']; exact hf
        | true =>
          have hw' : wantedX ops (St.put ⟨st.tm, mj⟩ o.dst vj) oi = true := (wanted_put' a3).trans hw
          cases ha : isAlloc oi with
          | true =>
            unfold floatX at hf ⊢
            rw [hw, ha] at hf; rw [hw', ha]; exact hf
          | false => rw [float_put a3 (hlook hw ha)]; exact hf
      refine ih (listed.setIfInBounds j true) bs _ (by rw [put_m]; exact Nat.le_trans hn hfr.hn) hf' ?_ (ready_mono hr (Ne.symm hji)) ?_
      · intro k ok hk hki hun hno
        refine hfree k ok hk hki ?_ hno
        by_cases hjk : j = k
        · subst hjk; exact hjun
        · rw [getD_set_ne true hjk] at hun; exact hun
      · rw [Array.setIfInBounds_comm _ _ hji]
        rw [put_put a2] at hg
        exact hg

/-- The runner's own order shows that every order is as good. -/
theorem draw_good (hR : RunOk E run) : ∀ (fuel : Nat) (listed : Array Bool) (bs : List (Nat × Nat)) (st : St), hn0 ≤ st.m.hn → drawX E run ops hn0 fuel listed bs st = some fin → Good E run ops hn0 fin fuel listed bs st
  | 0, listed, bs, st, hn, h => by
    unfold drawX at h
    split at h
    · rename_i hr; simp only [Option.some.injEq] at h; exact ⟨hr, h⟩
    · cases h
  | fuel + 1, listed, bs, st, hn, h => by
    unfold drawX at h
    split at h
    · rename_i hr
      simp only [Option.some.injEq] at h
      exact ⟨fun _ => h, fun j hj => by rw [hr] at hj; cases hj⟩
    · rename_i r0 rs hr
      split at h
      · rename_i i hfind
        have htk := List.find?_some hfind
        have hmem : i ∈ Region.ready .any ops listed := by rw [hr]; exact List.mem_of_find?_eq_some hfind
        split at h
        · rename_i o ho
          unfold takes at htk
          rw [ho] at htk
          simp only [Bool.and_eq_true] at htk
          split at h
          · rename_i v b hf
            exact good_take hR ho fuel listed bs st hn hf (Region.free_spec ho htk.2) hmem (draw_good hR fuel _ _ _ (by rw [put_m]; exact hn) h)
          · cases h
        · cases h
      · split at h
        · split at h
          · rename_i o ho
            split at h
            · rename_i v m hst
              refine ⟨fun h0 => (by rw [hr] at h0; cases h0), fun j hj o' ho' => ?_⟩
              rw [hr] at hj
              simp only [List.mem_singleton] at hj
              subst hj
              rw [ho] at ho'; cases ho'
              have hs : stepD E run ops hn0 bs st j o = some (v, m) := hst
              have hfr := step_frm hR hs
              exact ⟨v, m, hs, draw_good hR fuel _ _ _ (by rw [put_m]; exact Nat.le_trans hn hfr.hn) h⟩
            · cases h
          · cases h
        · cases h
end
end Go.Rx
