/-
  THE RUNNER IS SOUND, part 10: code, and calls.
-/
import Derived.Test.YteaglhkacfcgfaaRxK
namespace Go.Rx
open Go Go.RowKit

theorem MemRel.wr {W : World} {ρ : Loc'} {m : Mem} {w : World} (h : MemRel W ρ m w) (k : Nat) : MemRel W ρ ⟨m.hp, m.hn, k⟩ w := ⟨h.below, h.dom, h.inj, h.full⟩
theorem MemRel.drawn {W : World} {ρ : Loc'} {m : Mem} {w : World} (h : MemRel W ρ m w) (k : Nat) : MemRel W ρ m { w with drawn := k } :=
  ⟨⟨h.below.os, h.below.tape, h.below.output, h.below.size, h.below.block⟩, h.dom, h.inj, h.full⟩
theorem StRel.wr {W : World} {ρ : Loc'} {st : St} {a : Act} {w : World} (h : StRel W ρ st a w) (k : Nat) : StRel W ρ ⟨st.tm, ⟨st.m.hp, st.m.hn, k⟩⟩ a w := ⟨h.some, h.none, h.defers, h.mem.wr k⟩

section
variable {E : Env} {run : Runs} {ops : Array Oper} {hn0 : Nat} {bs : List (Nat × Nat)} {fin : St} {W : World}

theorem rank_lt {i j : Nat} {o : Oper} (hij : i < j) (ho : ops[i]? = some o) (ha : isAlloc o = true) : rank ops i < rank ops j := by
  unfold rank
  have hi : i < ops.toList.length := by have := (Array.getElem?_eq_some_iff.1 ho).1; simpa using this
  have ho' : ops.toList[i]? = some o := by simpa using ho
  have e : ops.toList.take (i + 1) = ops.toList.take i ++ [o] := by
    rw [List.take_add_one, ho']; rfl
  have hp : (ops.toList.take (i + 1)).Sublist (ops.toList.take j) := by
    have : ops.toList.take (i + 1) = (ops.toList.take j).take (i + 1) := by rw [List.take_take, Nat.min_eq_left (by omega)]
    rw [this]; exact List.take_sublist _ _
  have hle := (hp.filter isAlloc).length_le
  rw [e, List.filter_append] at hle
  simp [ha] at hle
  omega
theorem rank_ne {i j : Nat} {o o' : Oper} (hij : i ≠ j) (ho : ops[i]? = some o) (ha : isAlloc o = true) (ho' : ops[j]? = some o') (ha' : isAlloc o' = true) : rank ops i ≠ rank ops j := by
  rcases Nat.lt_or_gt_of_ne hij with h | h
  · have := rank_lt h ho ha; omega
  · have := rank_lt h ho' ha'; omega

/-- The numbers that are set aside are still free, and hold what they must. -/
def Res (P : Program) (ops : Array Oper) (hn0 : Nat) (listed : Array Bool) (ρ : Loc') (m : Mem) : Prop :=
  ∀ i o t, ops[i]? = some o → o.op = .alloc t → listed.getD i true = false →
    ρ (hn0 + rank ops i) = none ∧ hn0 + rank ops i < m.hn ∧ ∃ z, zeroX P t = some z ∧ m.hp.get (hn0 + rank ops i) = some (.cells z t)
theorem isAlloc_op {o : Oper} {t : TypeId} (h : o.op = .alloc t) : isAlloc o = true := by unfold isAlloc; rw [h]
theorem alloc_op {o : Oper} (h : isAlloc o = true) : ∃ t, o.op = .alloc t := by
  unfold isAlloc at h
  split at h
  · exact ⟨_, by assumption⟩
  · cases h
theorem unlisted {listed : Array Bool} {i j : Nat} (hj : listed.getD j true = false) (h : (listed.setIfInBounds j true).getD i true = false) : i ≠ j ∧ listed.getD i true = false := by
  by_cases hij : j = i
  · subst hij
    have hlt : j < listed.size := by
      rcases Nat.lt_or_ge j listed.size with h' | h'
      · exact h'
      · simp [Array.getElem?_eq_none h'] at hj
    simp [hlt] at h
  · rw [getD_set_ne true hij] at h
    exact ⟨Ne.symm hij, h⟩

theorem good_wp (hE : EnvOk E) (hR : RunOk E run) {Q : Exit → Act → World → Prop} : ∀ (fuel : Nat) (listed : Array Bool) (bs : List (Nat × Nat)) (st : St) (ρ : Loc') (a : Act) (w : World),
    ρ.val = E.val → Good E run ops hn0 fin fuel listed bs st → StRel W ρ st a w → Res E.P ops hn0 listed ρ st.m → hn0 ≤ st.m.hn →
    (∀ ρ' a' w', Ext ρ ρ' → Keep hn0 st.m fin.m ρ ρ' → StRel W ρ' fin a' w' → Q .normal a' w') → wpAny E.P .any ops Q fuel listed a w
  | 0, listed, bs, st, ρ, a, w, hV, hg, h, hres, hn, hQ => by
    obtain ⟨h1, rfl⟩ := hg
    exact ⟨h1, hQ ρ a w (Ext.refl _) (Keep.refl _ _ _) h⟩
  | fuel + 1, listed, bs, st, ρ, a, w, hV, hg, h, hres, hn, hQ => by
    refine ⟨fun hr => ?_, fun j hj => ?_⟩
    · have := hg.1 hr
      subst this
      exact hQ ρ a w (Ext.refl _) (Keep.refl _ _ _) h
    · obtain ⟨hjun, o, ho, _⟩ := mem_ready.1 hj
      obtain ⟨v, m, hs, hg'⟩ := hg.2 j hj o ho
      have hfr := step_frm hR hs
      have go : ∀ ρ' x w', Ext ρ ρ' → Keep hn0 st.m m ρ ρ' → DV ρ' v x → MemRel W ρ' m w' → Res E.P ops hn0 (listed.setIfInBounds j true) ρ' m → wpAny E.P .any ops Q fuel (listed.setIfInBounds j true) (a.put o.dst x) w' := fun ρ' x w' h1 h2 h3 h4 h5 => by
        refine good_wp hE hR fuel _ bs _ ρ' _ w' (h1.val.trans hV) hg' ((h.mono h1 h4).put o.dst h3) (by rw [put_m]; exact h5) (by rw [put_m]; exact Nat.le_trans hn hfr.hn) fun ρ'' a'' w'' k1 k2 k3 => ?_
        rw [put_m] at k2
        exact hQ ρ'' a'' w'' (h1.trans k1) (h2.trans k2 (Nat.le_refl _)) k3
      have hresSame : Res E.P ops hn0 (listed.setIfInBounds j true) ρ st.m := fun i o' t ho' hop hl => by
        obtain ⟨_, hl'⟩ := unlisted hjun hl
        exact hres i o' t ho' hop hl'
      unfold wpOp
      simp only [ho]
      rw [wanted_sound h]
      unfold stepD at hs
      cases hw : wantedX ops st o with
      | false =>
        simp only [Bool.false_eq_true, if_false]
        have hf : floatX E ops hn0 st j o = some (.tup [], none) := by unfold floatX; rw [hw]; rfl
        rw [hf] at hs
        simp only [Option.some.injEq, Prod.mk.injEq] at hs
        obtain ⟨rfl, rfl⟩ := hs
        exact go ρ undef w (Ext.refl _) (Keep.refl _ _ _) (DV.undef _) h.mem hresSame
      | true =>
        simp only [if_true]
        refine .inl ?_
        cases ha : isAlloc o with
        | true =>
          have hf : floatX E ops hn0 st j o = some (.s (.one (.ptr (hn0 + rank ops j) 0)), none) := by unfold floatX; rw [hw, ha]; rfl
          rw [hf] at hs
          simp only [Option.some.injEq, Prod.mk.injEq] at hs
          obtain ⟨rfl, rfl⟩ := hs
          obtain ⟨t, hop⟩ := alloc_op ha
          obtain ⟨hnone, hlt, z, hz, hget⟩ := hres j o t ho hop hjun
          obtain ⟨zv, h1, h2⟩ := run_zeroX hz w ρ
          have hmem := h.mem.fresh (m' := st.m) (k := .cells z t) (o := .cells zv.cells t (0, 0)) hnone hlt hget (by have := DB.cells (e := t) h2; simpa using this) (fun _ _ _ => rfl) (Nat.le_refl _) h.mem.full
          have hrun : (execOp a.eval o).run E.P w = .ok (.value (.pointer (some ⟨w.heap.size, 0, none⟩))) { w with heap := w.heap.push (.cells zv.cells t (0, 0)) } := by
            unfold execOp
            simp only [hop]
            simp [Instr.alloc, h1, newVar, newRow]
          unfold Oper.wp
          rw [hrun, Oper.upon_value]
          refine go _ _ _ (Ext.add hnone) (fun b hb hx => ⟨by rw [add_other (by omega)]; exact hx, rfl⟩) (.s (.one (.ptr (add_same _ _)))) hmem fun i o' t' ho' hop' hl => ?_
          obtain ⟨hij, hl'⟩ := unlisted hjun hl
          obtain ⟨k1, k2, k3⟩ := hres i o' t' ho' hop' hl'
          have hne := rank_ne hij ho' (isAlloc_op hop') ho ha
          exact ⟨by rw [add_other (by omega)]; exact k1, k2, k3⟩
        | false =>
          split at hs
          · rename_i u b hf
            simp only [Option.some.injEq, Prod.mk.injEq] at hs
            obtain ⟨rfl, rfl⟩ := hs
            have hp : pureO E st o = some u := by
              unfold floatX at hf
              rw [hw, ha] at hf
              simp only [cond_true, cond_false] at hf
              split at hf
              · simp only [Option.map_eq_some_iff, Prod.mk.injEq] at hf
                obtain ⟨_, h1, rfl, _⟩ := hf; exact h1
              · rename_i q hl
                cases hb : Nat.blt q hn0 with
                | false => rw [hb] at hf; cases hf
                | true =>
                  rw [hb] at hf
                  simp only [cond_true, Option.map_eq_some_iff, Prod.mk.injEq] at hf
                  obtain ⟨_, h1, rfl, _⟩ := hf; exact h1
              · cases hf
            obtain ⟨x, h1, h2⟩ := pureO_sound hE hV h hp
            unfold Oper.wp
            rw [h2, Oper.upon_value]
            exact go ρ x w (Ext.refl _) (Keep.refl _ _ _) h1 h.mem hresSame
          · unfold heavyX at hs
            split at hs
            · rename_i u m1 hop
              cases hsp : spares hn0 bs st o m1.wr with
              | false => rw [hsp] at hs; cases hs
              | true =>
                rw [hsp] at hs
                simp only [cond_true, Option.some.injEq, Prod.mk.injEq] at hs
                obtain ⟨rfl, rfl⟩ := hs
                refine op_wp hE hR hV (h.wr st.m.hn) hop fun ρ' x w' h1 h2 h3 h4 => ?_
                have hk : Keep st.m.hn st.m ⟨m1.hp, m1.hn, bif Nat.ble st.m.wr m1.wr then st.m.wr else m1.wr⟩ ρ ρ' := h2
                refine go ρ' x w' h1 (hk.le hn) h3 (h4.wr _) fun i o' t' ho' hop' hl => ?_
                obtain ⟨hij, hl'⟩ := unlisted hjun hl
                obtain ⟨k1, k2, z, k3, k4⟩ := hres i o' t' ho' hop' hl'
                obtain ⟨q1, q2⟩ := hk _ k2 k1
                exact ⟨q1, Nat.lt_of_lt_of_le k2 hfr.hn, z, k3, q2.trans k4⟩
            · cases hs

theorem aside_frm {P : Program} : ∀ {l : List Oper} {m m1 : Mem}, aside P l m = some m1 → Frm m m1
  | [], m, m1, h => by simp only [aside, Option.some.injEq] at h; subst h; exact .refl _
  | o :: r, m, m1, h => by
    simp only [aside] at h
    split at h
    · split at h
      · exact (Frm.push _ _).trans (aside_frm h)
      · cases h
    · exact aside_frm h
theorem aside_spec {P : Program} : ∀ {l pre : List Oper} {m0 m m1 : Mem}, aside P l m = some m1 → m.hn = m0.hn + (pre.filter isAlloc).length → (∀ i, i < m.hn → (m.hp.get i).isSome) → 
    Frm m m1 ∧ (∀ i, i < m1.hn → (m1.hp.get i).isSome) ∧ m1.wr = m.wr ∧ (∀ b, b < m.hn → m1.hp.get b = m.hp.get b) ∧
    ∀ i o t, l[i]? = some o → o.op = .alloc t → m0.hn + ((pre ++ l.take i).filter isAlloc).length < m1.hn ∧ ∃ z, zeroX P t = some z ∧ m1.hp.get (m0.hn + ((pre ++ l.take i).filter isAlloc).length) = some (.cells z t)
  | [], pre, m0, m, m1, h, hn, hfull => by
    simp only [aside, Option.some.injEq] at h; subst h
    exact ⟨.refl _, hfull, rfl, fun _ _ => rfl, fun i o t hi => by simp at hi⟩
  | o :: r, pre, m0, m, m1, h, hn, hfull => by
    simp only [aside] at h
    split at h
    · rename_i t hop
      split at h
      · rename_i z hz
        have ha := isAlloc_op hop
        have hfull' : ∀ i, i < (m.push (.cells z t)).hn → ((m.push (.cells z t)).hp.get i).isSome := fun i hi => by
          simp only [Mem.push] at hi ⊢
          by_cases hin : i = m.hn
          · subst hin; rw [get_ins_eq _ hfull]; rfl
          · rw [get_ins_ne _ (Ne.symm hin)]; exact hfull i (by omega)
        obtain ⟨h1, h2, h3, h4, h5⟩ := aside_spec (pre := pre ++ [o]) (m0 := m0) h (by simp [Mem.push, ha]; omega) hfull'
        refine ⟨(Frm.push _ _).trans h1, h2, h3, fun b hb => ?_, fun i o' t' hi hop' => ?_⟩
        · rw [h4 b (by simp [Mem.push]; omega)]
          exact get_ins_ne _ (by omega)
        · cases i with
          | zero =>
            simp only [List.getElem?_cons_zero, Option.some.injEq] at hi
            subst hi
            rw [hop] at hop'; cases hop'
            simp only [List.take_zero, List.append_nil]
            rw [← hn]
            have := h1.hn
            simp only [Mem.push] at this
            refine ⟨by omega, z, hz, ?_⟩
            rw [h4 m.hn (by simp [Mem.push])]
            exact get_ins_eq _ hfull
          | succ i =>
            have := h5 i o' t' (by simpa using hi) hop'
            simpa using this
      · cases h
    · rename_i hno
      have ha : isAlloc o = false := by
        cases hc : isAlloc o with
        | false => rfl
        | true => obtain ⟨t, ht⟩ := alloc_op hc; exact absurd ht (hno t)
      obtain ⟨h1, h2, h3, h4, h5⟩ := aside_spec (pre := pre ++ [o]) (m0 := m0) h (by simp [ha]; omega) hfull
      refine ⟨h1, h2, h3, h4, fun i o' t' hi hop' => ?_⟩
      cases i with
      | zero =>
        simp only [List.getElem?_cons_zero, Option.some.injEq] at hi
        subst hi
        exact absurd hop' (hno t')
      | succ i =>
        have := h5 i o' t' (by simpa using hi) hop'
        simpa using this

theorem draw_frm (hR : RunOk E run) : ∀ (fuel : Nat) (listed : Array Bool) (bs : List (Nat × Nat)) (st : St), drawX E run ops hn0 fuel listed bs st = some fin → Frm st.m fin.m
  | 0, listed, bs, st, h => by
    unfold drawX at h
    split at h
    · simp only [Option.some.injEq] at h; subst h; exact .refl _
    · cases h
  | fuel + 1, listed, bs, st, h => by
    unfold drawX at h
    split at h
    · simp only [Option.some.injEq] at h; subst h; exact .refl _
    · split at h
      · split at h
        · split at h
          · have := draw_frm hR fuel _ _ _ h
            rw [put_m] at this
            exact this
          · cases h
        · cases h
      · split at h
        · split at h
          · split at h
            · rename_i v m hst
              have hs : stepD E run ops hn0 bs st _ _ = some (v, m) := hst
              have := draw_frm hR fuel _ _ _ h
              rw [put_m] at this
              exact (step_frm hR hs).trans this
            · cases h
          · cases h
        · cases h
end

/-! ### Entering and leaving -/
theorem putArgs_get : ∀ (l : List V1) (i : Nat) (t : Tr V) (j : Nat), (∀ k, k < l.length → (t.get (i + k)).isSome) → (putArgs l i t).get j = if j < i then t.get j else if h : j - i < l.length then some (.s l[j - i]) else t.get j
  | [], i, t, j, _ => by simp [putArgs]
  | x :: r, i, t, j, h => by
    have h0 := h 0 (by simp)
    simp only [Nat.add_zero] at h0
    obtain ⟨z, hz⟩ := Option.isSome_iff_exists.1 h0
    have ih := putArgs_get r (i + 1) (t.set i (.s x)) j (fun k hk => by
      rw [get_set_ne _ (by omega)]
      have := h (k + 1) (by simp; omega)
      rwa [show i + (k + 1) = i + 1 + k by omega] at this)
    simp only [putArgs]
    rw [ih]
    by_cases h1 : j < i
    · rw [if_pos (by omega), if_pos h1, get_set_ne _ (by omega)]
    · rw [if_neg h1]
      by_cases h2 : j = i
      · subst h2
        rw [if_pos (by omega), get_set_eq _ hz]
        simp
      · rw [if_neg (by omega)]
        by_cases h3 : j - (i + 1) < r.length
        · have h4 : j - i < (x :: r).length := by simp; omega
          have e : j - i = (j - (i + 1)) + 1 := by omega
          simp only [h3, h4, dif_pos]
          congr 2
          simp only [e, List.getElem_cons_succ]
        · have h4 : ¬ (j - i < (x :: r).length) := by simp; omega
          simp only [h3, h4, dif_neg, not_false_eq_true]
          exact get_set_ne _ (by omega)

theorem enter_sound {W : World} {ρ : Loc'} {fn : Func} {args : List V1} {xs : List Value} {tm : Tr V} {m : Mem} {w : World} (ht : enterX fn args = some tm) (hx : All2 (D1 ρ) args xs) (hm : MemRel W ρ m w) :
    StRel W ρ ⟨tm, m⟩ { tmps := xs.toArray ++ Array.replicate (fn.ntmps - xs.toArray.size) undef, defers := [] } w := by
  unfold enterX at ht
  cases hc : Nat.ble args.length fn.ntmps && Nat.ble fn.ntmps 1000000 with
  | false => rw [hc] at ht; cases ht
  | true =>
    rw [hc] at ht
    simp only [cond_true, Option.some.injEq] at ht
    subst ht
    simp only [Bool.and_eq_true] at hc
    have h1 := ble_t hc.1
    have h2 := ble_t hc.2
    have hlen := hx.length
    have h20 : fn.ntmps < 2 ^ 20 := by
      have : (2:Nat) ^ 20 = 1048576 := by decide
      omega
    have hmk : ∀ i, (Tr.mk 20 fn.ntmps (.tup [] : V)).get i = if i < fn.ntmps then some (.tup []) else none := fun i => get_mk _ 20 _ i h20
    have hget : ∀ j, (putArgs args 0 (Tr.mk 20 fn.ntmps (.tup []))).get j = if h : j < args.length then some (.s args[j]) else if j < fn.ntmps then some (.tup []) else none := fun j => by
      rw [putArgs_get args 0 _ j (fun k hk => by rw [hmk]; rw [if_pos (by omega)]; rfl)]
      simp only [Nat.not_lt_zero, if_false, Nat.sub_zero]
      by_cases hj : j < args.length
      · simp [hj]
      · simp only [hj, dif_neg, not_false_eq_true]; exact hmk j
    refine ⟨fun t v hv => ?_, fun t hv => ?_, rfl, hm⟩
    · rw [hget] at hv
      by_cases hj : t < args.length
      · simp only [hj, dif_pos, Option.some.injEq] at hv
        subst hv
        obtain ⟨x, hx1, hx2⟩ := hx.get (i := t) (a := args[t]) (by simp [hj])
        refine ⟨x, ?_, .s hx2⟩
        rw [Array.getElem?_append, if_pos (by simp; omega)]
        simpa using hx1
      · simp only [hj, dif_neg, not_false_eq_true] at hv
        split at hv
        · rename_i hlt
          simp only [Option.some.injEq] at hv; subst hv
          refine ⟨undef, ?_, DV.undef _⟩
          rw [Array.getElem?_append, if_neg (by simp; omega), Array.getElem?_replicate, if_pos (by simp; omega)]
        · cases hv
    · rw [hget] at hv
      by_cases hj : t < args.length
      · simp [hj] at hv
      · simp only [hj, dif_neg, not_false_eq_true] at hv
        split at hv
        · cases hv
        · rename_i hlt
          simp; omega

theorem run_asAddr {P : Program} (x : Addr) (w : World) : (asAddr (.pointer (some x))).run P w = .ok x w := rfl
theorem res_sound {P : Program} {W : World} {ρ : Loc'} {st : St} {a : Act} {w : World} (h : StRel W ρ st a w) (f : ResultVar → Sem Value) (f1 : ∀ t, f (.tmp t) = pure (a.tmps.getD t undef))
    (f2 : ∀ b t, f (.cell b t) = (asAddr (a.tmps.getD b undef) >>= fun x => loadVar t x)) : ∀ {rs : List ResultVar} {l : List V1}, resX P st rs = some l →
    ∃ xs : List Value, All2 (D1 ρ) l xs ∧ (rs.mapM f).run P w = .ok xs w
  | [], l, hl => by simp only [resX, Option.some.injEq] at hl; subst hl; exact ⟨[], .nil, by simp⟩
  | .tmp t :: r, l, hl => by
    simp only [resX] at hl
    split at hl
    · rename_i y l' h1 h2
      simp only [Option.some.injEq] at hl; subst hl
      obtain ⟨xs, k1, k2⟩ := res_sound h f f1 f2 h2
      have hx := ev1_sound h h1
      refine ⟨_ :: xs, .cons hx k1, ?_⟩
      simp only [List.mapM_cons, Sem.run_bind, f1, Sem.run_pure, Result.andThen_ok, k2]
      rfl
    · cases hl
  | .cell b t :: r, l, hl => by
    simp only [resX] at hl
    split at hl
    · rename_i p o h1
      split at hl
      · rename_i y l' h2 h3
        simp only [Option.some.injEq] at hl; subst hl
        obtain ⟨xs, k1, k2⟩ := res_sound h f f1 f2 h3
        obtain ⟨q, hq, hρ⟩ := (evc_sound h h1).ptr_inv
        obtain ⟨x, hx1, hx2⟩ := load_sound (P := P) h.mem rfl h2 hρ
        have hq' : a.tmps.getD b undef = .pointer (some ⟨q, o, none⟩) := hq
        refine ⟨x :: xs, .cons hx1 k1, ?_⟩
        simp only [List.mapM_cons, Sem.run_bind, f2, hq', run_asAddr, Sem.run_pure, Result.andThen_ok, hx2, k2]
      · cases hl
    · cases hl
def resF (tmps : Array Value) : ResultVar → Sem Value
  | .tmp t => pure (tmps.getD t undef)
  | .cell b t => asAddr (tmps.getD b undef) >>= fun x => loadVar t x
theorem results_eq (fn : Func) (tmps : Array Value) : results fn tmps = (fn.results.mapM (resF tmps) >>= fun vs => pure (if h : vs.size = 1 then vs[0] else .tuple vs)) := by
  unfold results
  have e : (fun x => match x with
      | .tmp t => pure (tmps.getD t undef)
      | .cell a t => do loadVar t (← asAddr (tmps.getD a undef)) : ResultVar → Sem Value) = resF tmps := by
    funext x; cases x <;> rfl
  rw [← e]
  rfl
theorem results_sound {P : Program} {W : World} {ρ : Loc'} {st : St} {a : Act} {w : World} (h : StRel W ρ st a w) {fn : Func} {l : List V1} (hl : resX P st fn.results.toList = some l) :
    ∃ x, DV ρ (packX l) x ∧ (results fn a.tmps).run P w = .ok x w := by
  obtain ⟨xs, h1, h2⟩ := res_sound h (resF a.tmps) (fun _ => rfl) (fun _ _ => rfl) hl
  have h3 : (results fn a.tmps).run P w = .ok (if h : xs.toArray.size = 1 then xs.toArray[0] else .tuple xs.toArray) w := by
    rw [results_eq, Array.mapM_eq_mapM_toList]
    simp only [bind_map_left, Sem.run_bind]
    rw [h2]
    rfl
  cases h1 with
  | nil => exact ⟨_, .tup .nil, by rw [h3]; rfl⟩
  | cons k1 k2 =>
    cases k2 with
    | nil => exact ⟨_, .s k1, by rw [h3]; rfl⟩
    | cons k3 k4 => exact ⟨_, .tup (.cons k1 (.cons k3 k4)), by rw [h3]; simp⟩

def exOf : Ex → Exit
  | .normal => .normal
  | .exit id => .exit id
  | .ret => .ret

/-- What is known of a reader of code. -/
def CodeOk (E : Env) (code : Code → St → Option (Ex × St)) : Prop :=
  ∀ c st ex st', code c st = some (ex, st') → Frm st.m st'.m ∧ ∀ (W : World) (ρ : Loc') (a : Act) (w : World), ρ.val = E.val → StRel W ρ st a w → ∀ Q : Exit → Act → World → Prop,
    (∀ ρ' a' w', Ext ρ ρ' → Keep st.m.hn st.m st'.m ρ ρ' → StRel W ρ' st' a' w' → Q (exOf ex) a' w') → c.wp E.P Q a w

theorem run_ok {E : Env} (hE : EnvOk E) {code : Code → St → Option (Ex × St)} (hC : CodeOk E code) : RunOk E (runX E.P code) := by
  have key : ∀ f args m v m', runX E.P code f args m = some (v, m') → ∃ fn body tm ex st' l, E.P.funcs[f]? = some fn ∧ fn.body = some body ∧ enterX fn args = some tm ∧ code body ⟨tm, m⟩ = some (ex, st') ∧ (ex = .normal ∨ ex = .ret) ∧ resX E.P st' fn.results.toList = some l ∧ v = packX l ∧ m' = st'.m := by
    intro f args m v m' h
    unfold runX at h
    split at h
    · rename_i fn hf
      split at h
      · rename_i body hb
        split at h
        · rename_i tm ht
          unfold endX at h
          split at h
          · rename_i st' hc
            simp only [Option.map_eq_some_iff, Prod.mk.injEq] at h
            obtain ⟨l, h1, rfl, rfl⟩ := h
            exact ⟨fn, body, tm, _, st', l, hf, hb, ht, hc, .inl rfl, h1, rfl, rfl⟩
          · rename_i st' hc
            simp only [Option.map_eq_some_iff, Prod.mk.injEq] at h
            obtain ⟨l, h1, rfl, rfl⟩ := h
            exact ⟨fn, body, tm, _, st', l, hf, hb, ht, hc, .inr rfl, h1, rfl, rfl⟩
          · cases h
        · cases h
      · cases h
    · cases h
  refine ⟨fun f args m v m' h => ?_, fun f args m v m' h W ρ xs w hV hx hm => ?_⟩
  · obtain ⟨fn, body, tm, ex, st', l, _, _, _, hc, _, _, _, rfl⟩ := key f args m v m' h
    exact (hC _ _ _ _ hc).1
  · obtain ⟨fn, body, tm, ex, st', l, hf, hb, ht, hc, hex, hl, rfl, rfl⟩ := key f args m v m' h
    refine ⟨?_, ?_⟩
    · have hn : ¬ fn.name = "runtime.NumGoroutine" := by simpa using hE.name f fn hf
      simp [callFunc, hf, hn, hb]
    · refine calls_of_wp hf hb ((hC _ _ _ _ hc).2 W ρ _ w hV (enter_sound ht hx hm) _ fun ρ' a' w' h1 h2 h3 => ?_)
      obtain ⟨x, hx1, hx2⟩ := results_sound (P := E.P) h3 hl
      have : bodyPost E.P fn (fun e w' => ∃ x ρ', e = .returned x ∧ Ext ρ ρ' ∧ Keep m.hn m st'.m ρ ρ' ∧ DV ρ' (packX l) x ∧ MemRel W ρ' st'.m w') .ret a' w' := ⟨h3.defers, x, hx2, x, ρ', rfl, h1, h2, hx1, h3.mem⟩
      rcases hex with rfl | rfl <;> exact this

theorem code_ok {E : Env} (hE : EnvOk E) : ∀ n, CodeOk E (codeX E n)
  | 0 => fun c st ex st' h => by simp [codeX] at h
  | n + 1 => by
    have ih := code_ok hE n
    have hR := run_ok hE ih
    intro c st ex st' h
    unfold codeX at h
    simp only at h
    split at h
    · simp only [Option.some.injEq, Prod.mk.injEq] at h; obtain ⟨rfl, rfl⟩ := h
      exact ⟨.refl _, fun W ρ a w hV hs Q hQ => wp_skip (hQ ρ a w (Ext.refl _) (Keep.refl _ _ _) hs)⟩
    · simp only [Option.some.injEq, Prod.mk.injEq] at h; obtain ⟨rfl, rfl⟩ := h
      exact ⟨.refl _, fun W ρ a w hV hs Q hQ => wp_label (hQ ρ a w (Ext.refl _) (Keep.refl _ _ _) hs)⟩
    · simp only [Option.some.injEq, Prod.mk.injEq] at h; obtain ⟨rfl, rfl⟩ := h
      exact ⟨.refl _, fun W ρ a w hV hs Q hQ => wp_ret (hQ ρ a w (Ext.refl _) (Keep.refl _ _ _) hs)⟩
    · simp only [Option.some.injEq, Prod.mk.injEq] at h; obtain ⟨rfl, rfl⟩ := h
      exact ⟨.refl _, fun W ρ a w hV hs Q hQ => wp_exit (hQ ρ a w (Ext.refl _) (Keep.refl _ _ _) hs)⟩
    · -- a sequence
      rename_i x y
      split at h
      · rename_i st1 h1
        obtain ⟨f1, w1⟩ := ih _ _ _ _ h1
        obtain ⟨f2, w2⟩ := ih _ _ _ _ h
        refine ⟨f1.trans f2, fun W ρ a w hV hs Q hQ => wp_seq (w1 W ρ a w hV hs _ fun ρ' a' w' k1 k2 k3 => ?_)⟩
        exact w2 W ρ' a' w' (k1.val.trans hV) k3 Q fun ρ'' a'' w'' q1 q2 q3 => hQ ρ'' a'' w'' (k1.trans q1) (k2.trans q2 f1.hn) q3
      · rename_i hno
        obtain ⟨f1, w1⟩ := ih _ _ _ _ h
        refine ⟨f1, fun W ρ a w hV hs Q hQ => wp_seq (w1 W ρ a w hV hs _ fun ρ' a' w' k1 k2 k3 => ?_)⟩
        cases ex with
        | normal => exact absurd h (hno _)
        | exit id => exact hQ ρ' a' w' k1 k2 k3
        | ret => exact hQ ρ' a' w' k1 k2 k3
    · -- a branch
      rename_i x y z
      split at h
      · rename_i t hc
        cases t with
        | true =>
          simp only [cond_true] at h
          obtain ⟨f1, w1⟩ := ih _ _ _ _ h
          exact ⟨f1, fun W ρ a w hV hs Q hQ => wp_cond_true (evc_sound hs hc).v_inv (w1 W ρ a w hV hs Q hQ)⟩
        | false =>
          simp only [cond_false] at h
          obtain ⟨f1, w1⟩ := ih _ _ _ _ h
          exact ⟨f1, fun W ρ a w hV hs Q hQ => wp_cond_false (evc_sound hs hc).v_inv (w1 W ρ a w hV hs Q hQ)⟩
      · cases h
    · -- a block
      rename_i id b
      split at h
      · rename_i i st1 h1
        obtain ⟨f1, w1⟩ := ih _ _ _ _ h1
        cases hb : Nat.beq i id with
        | true =>
          rw [hb] at h
          simp only [cond_true, Option.some.injEq, Prod.mk.injEq] at h
          obtain ⟨rfl, rfl⟩ := h
          refine ⟨f1, fun W ρ a w hV hs Q hQ => wp_block (w1 W ρ a w hV hs _ fun ρ' a' w' k1 k2 k3 => ?_)⟩
          simp only [exOf, Exit.inBlock, beq_t hb, if_true]
          exact hQ ρ' a' w' k1 k2 k3
        | false =>
          rw [hb] at h
          simp only [cond_false, Option.some.injEq, Prod.mk.injEq] at h
          obtain ⟨rfl, rfl⟩ := h
          refine ⟨f1, fun W ρ a w hV hs Q hQ => wp_block (w1 W ρ a w hV hs _ fun ρ' a' w' k1 k2 k3 => ?_)⟩
          simp only [exOf, Exit.inBlock, beq_f hb, if_false]
          exact hQ ρ' a' w' k1 k2 k3
      · rename_i hno
        obtain ⟨f1, w1⟩ := ih _ _ _ _ h
        refine ⟨f1, fun W ρ a w hV hs Q hQ => wp_block (w1 W ρ a w hV hs _ fun ρ' a' w' k1 k2 k3 => ?_)⟩
        cases ex with
        | normal => exact hQ ρ' a' w' k1 k2 k3
        | exit i => exact absurd h (hno _ _)
        | ret => exact hQ ρ' a' w' k1 k2 k3
    · -- a loop
      rename_i b
      have key : ∀ k st ex st', k ≤ n + 1 → codeX E k (.loop b) st = some (ex, st') → Frm st.m st'.m ∧ ∀ (W : World) (ρ : Loc') (a : Act) (w : World), ρ.val = E.val → StRel W ρ st a w → ∀ Q : Exit → Act → World → Prop,
          (∀ ρ' a' w', Ext ρ ρ' → Keep st.m.hn st.m st'.m ρ ρ' → StRel W ρ' st' a' w' → Q (exOf ex) a' w') → Code.rounds E.P b Q k a w := by
        intro k
        induction k with
        | zero => intro st ex st' _ hh; simp [codeX] at hh
        | succ k ihk =>
          intro st ex st' hk hh
          have ihc : CodeOk E (codeX E k) := code_ok hE k
          unfold codeX at hh
          simp only at hh
          split at hh
          · rename_i st1 h1
            obtain ⟨f1, w1⟩ := ihc _ _ _ _ h1
            obtain ⟨f2, w2⟩ := ihk st1 ex st' (by omega) hh
            refine ⟨f1.trans f2, fun W ρ a w hV hs Q hQ => ?_⟩
            rw [rounds_succ]
            refine w1 W ρ a w hV hs _ fun ρ' a' w' k1 k2 k3 => ?_
            exact w2 W ρ' a' w' (k1.val.trans hV) k3 Q fun ρ'' a'' w'' q1 q2 q3 => hQ ρ'' a'' w'' (k1.trans q1) (k2.trans q2 f1.hn) q3
          · rename_i hno
            obtain ⟨f1, w1⟩ := ihc _ _ _ _ hh
            refine ⟨f1, fun W ρ a w hV hs Q hQ => ?_⟩
            rw [rounds_succ]
            refine w1 W ρ a w hV hs _ fun ρ' a' w' k1 k2 k3 => ?_
            cases ex with
            | normal => exact absurd hh (hno _)
            | exit id => exact hQ ρ' a' w' k1 k2 k3
            | ret => exact hQ ρ' a' w' k1 k2 k3
      have hh : codeX E (n + 1) (.loop b) st = some (ex, st') := by unfold codeX; exact h
      obtain ⟨f1, w1⟩ := key (n + 1) st ex st' (Nat.le_refl _) hh
      exact ⟨f1, fun W ρ a w hV hs Q hQ => wp_loop_rounds (n + 1) (w1 W ρ a w hV hs Q hQ)⟩
    · -- a scope
      rename_i b
      obtain ⟨f1, w1⟩ := ih _ _ _ _ h
      refine ⟨f1, fun W ρ a w hV hs Q hQ => wp_scope_straight (w1 W ρ a w hV hs _ fun ρ' a' w' k1 k2 k3 => ?_)⟩
      cases ex <;> exact hQ ρ' a' w' k1 k2 k3
    · -- a region
      rename_i id ops
      simp only [Option.map_eq_some_iff, Prod.mk.injEq] at h
      obtain ⟨st1, h1, rfl, rfl⟩ := h
      refine ⟨ops_frm hR h1, fun W ρ a w hV hs Q hQ => wp_region ?_⟩
      have := ops_wp (Q := Q) hE hR hV (k := 0) (by simp) h1 hs fun ρ' a' w' k1 k2 k3 => hQ ρ' a' w' k1 k2 k3
      rw [List.range_eq_range']
      simpa using this
    · -- a region that draws
      rename_i id ops
      split at h
      · rename_i m1 hm1
        simp only [Option.map_eq_some_iff, Prod.mk.injEq] at h
        obtain ⟨st1, h1, rfl, rfl⟩ := h
        have hfa := aside_frm hm1
        have hfd := draw_frm hR _ _ _ _ h1
        refine ⟨hfa.trans hfd, fun W ρ a w hV hs Q hQ => wp_region_any hE.mixed ?_⟩
        obtain ⟨_, s2, s3, s4, s5⟩ := aside_spec (P := E.P) (pre := []) (m0 := st.m) hm1 (by simp) hs.mem.full
        have hmem : MemRel W ρ m1 { w with drawn := w.drawn + 1 } := by
          refine ⟨(hs.mem.drawn _).below, fun b r hb => ?_, hs.mem.inj, s2⟩
          obtain ⟨k1, k2, k, o, k3, k4, k5⟩ := hs.mem.dom b r hb
          exact ⟨Nat.lt_of_lt_of_le k1 hfa.hn, k2, k, o, (s4 b k1).trans k3, k4, k5⟩
        have hst : StRel W ρ ⟨st.tm, m1⟩ a { w with drawn := w.drawn + 1 } := ⟨hs.some, hs.none, hs.defers, hmem⟩
        refine good_wp hE hR ops.size _ [] _ ρ a _ hV (draw_good hR _ _ _ _ hfa.hn h1) hst ?_ hfa.hn fun ρ' a' w' k1 k2 k3 => ?_
        · intro i o t ho hop _
          have h5 := s5 i o t (by simpa using ho) hop
          simp only [List.nil_append] at h5
          refine ⟨?_, h5.1, h5.2⟩
          cases hc : ρ (st.m.hn + rank ops i) with
          | none => rfl
          | some r => have := (hs.mem.dom _ _ hc).1; omega
        · refine hQ ρ' a' w' k1 (fun b hb hx => ?_) k3
          obtain ⟨q1, q2⟩ := k2 b hb hx
          exact ⟨q1, q2.trans (s4 b hb)⟩
      · cases h
    · cases h
end Go.Rx
