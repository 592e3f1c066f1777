/-
  THE RUNNER IS SOUND, part 7: an operation, a call, a region in the order of the text.
-/
import Derived.Test.YteaglhkacfcgfaaRxH
namespace Go.Rx
open Go Go.RowKit

structure EnvOk (E : Env) : Prop where
  mixed : E.P.follows .mixedOrders = true
  name : ∀ (f : FuncId) (fn : Func), E.P.funcs[f]? = some fn → (fn.name == "runtime.NumGoroutine") = false
  ext : ∀ f l v, E.ext f l = some v → ∀ (ρ : Loc') (xs : List Value), ρ.val = E.val → All2 (D1 ρ) l xs → ∃ x, DV ρ v x ∧ ∀ w, (callFunc f xs.toArray).run E.P w = .ok (.value x) w
  sum : ∀ f l v, E.sum f l = some v → ∀ (ρ : Loc') (xs : List Value) (w : World), ρ.val = E.val → All2 (D1 ρ) l xs → (callFunc f xs.toArray).run E.P w = .ok (.enter f xs.toArray) w ∧
    Calls E.P f xs.toArray w fun e w' => ∃ x, e = .returned x ∧ DV ρ v x ∧ Below w.heap.size w w'
  test : ∀ op a b r, E.test op a b = some r → ∀ k, intBin op k (a.eval E.val) (b.eval E.val) = some (.bool r)

structure RunOk (E : Env) (run : Runs) : Prop where
  frm : ∀ f args m v m', run f args m = some (v, m') → Frm m m'
  calls : ∀ f args m v m', run f args m = some (v, m') → ∀ (W : World) (ρ : Loc') (xs : List Value) (w : World), ρ.val = E.val → All2 (D1 ρ) args xs → MemRel W ρ m w →
    (callFunc f xs.toArray).run E.P w = .ok (.enter f xs.toArray) w ∧
    Calls E.P f xs.toArray w fun e w' => ∃ x ρ', e = .returned x ∧ Ext ρ ρ' ∧ Keep m.hn m m' ρ ρ' ∧ DV ρ' v x ∧ MemRel W ρ' m' w'

section
variable {E : Env} {run : Runs} {W : World} {ρ : Loc'} {st : St} {a : Act} {w : World}

theorem mem_frm {P : Program} {o : Oper} {v : V} {m' : Mem} (hv : memX P st o = some (v, m')) : Frm st.m m' := by
  obtain ⟨dst, op, type, pos, after, guard⟩ := o
  unfold memX at hv
  simp only at hv
  split at hv
  case h_1 t =>
    split at hv
    · simp only [Option.some.injEq, Prod.mk.injEq] at hv; obtain ⟨_, rfl⟩ := hv; exact .push _ _
    · cases hv
  case h_2 t x =>
    split at hv
    · simp only [Option.some.injEq, Prod.mk.injEq] at hv; obtain ⟨_, rfl⟩ := hv; exact .push _ _
    · cases hv
  case h_3 t x y =>
    split at hv
    · rename_i b o' y' s hb hy hs
      cases hc : Nat.beq y'.cells.length s && oneCells y'.cells with
      | false => simp [hc] at hv
      | true =>
        simp only [hc, cond_true] at hv
        split at hv
        · simp only [Option.map_eq_some_iff, Prod.mk.injEq] at hv
          obtain ⟨l', _, _, rfl⟩ := hv
          exact .upd _ _ _
        · cases hv
    · cases hv
  case h_4 t =>
    split at hv
    · simp only [Option.some.injEq, Prod.mk.injEq] at hv; obtain ⟨_, rfl⟩ := hv; exact .push _ _
    · cases hv
  case h_5 t mm k x =>
    split at hv
    · rename_i kt et b kk i c hu hm hk hx
      split at hv
      · rename_i kd l hkt hl
        cases hall : l.all (notInt kk i) with
        | false => simp [hall] at hv
        | true =>
          simp only [hall, cond_true, Option.some.injEq, Prod.mk.injEq] at hv
          obtain ⟨_, rfl⟩ := hv
          exact .upd _ _ _
      · cases hv
    · cases hv
  case h_6 t x =>
    split at hv
    · simp only [Option.some.injEq, Prod.mk.injEq] at hv; obtain ⟨_, rfl⟩ := hv; exact .push _ _
    · cases hv
  case h_7 it =>
    split at hv
    · rename_i b hb
      split at hv
      · rename_i s pos' hl
        cases hp : Nat.blt pos' s.size with
        | true =>
          simp only [hp, cond_true, Option.some.injEq, Prod.mk.injEq] at hv
          obtain ⟨_, rfl⟩ := hv
          exact .upd _ _ _
        | false =>
          simp only [hp, cond_false, Option.some.injEq, Prod.mk.injEq] at hv
          obtain ⟨_, rfl⟩ := hv
          exact .refl _
      · cases hv
    · cases hv
  case h_8 _ args ts =>
    split at hv
    · split at hv
      · rename_i b o' n cp y e hd hy hu
        split at hv
        · rename_i cs l e' hsz hrow hl
          cases hc : oneCells (cs.take n) with
          | false => simp [hc] at hv
          | true =>
            simp only [hc, cond_true, Option.map_eq_some_iff, Prod.mk.injEq] at hv
            obtain ⟨l', _, _, rfl⟩ := hv
            exact .upd _ _ _
        · cases hv
      · cases hv
    · cases hv
  case h_9 => cases hv

theorem args_sound (h : StRel W ρ st a w) : ∀ {xs : List Operand} {l : List V1}, argsX st xs = some l → All2 (D1 ρ) l (xs.map a.eval)
  | [], l, hl => by simp [argsX] at hl; subst hl; exact .nil
  | x :: r, l, hl => by
    simp only [argsX] at hl
    split at hl
    · rename_i y l' h1 h2
      simp only [Option.some.injEq] at hl; subst hl
      exact .cons (ev1_sound h h1) (args_sound h h2)
    · cases hl
theorem capPtrs_sound : ∀ {caps rs : List Nat}, All2 (fun b r => ρ b = some r) caps rs → All2 (D1 ρ) (capPtrs caps) (rs.map fun r => Value.pointer (some ⟨r, 0, none⟩))
  | _, _, .nil => .nil
  | _, _, .cons h k => .cons (.one (.ptr h)) (capPtrs_sound k)

/-- A world that a callee has only added to. -/
theorem MemRel.later {m : Mem} {w' : World} (h : MemRel W ρ m w) (hb : Below w.heap.size w w') : MemRel W ρ m w' :=
  ⟨h.below.trans (hb.mono h.below.size), fun b r hr => by
    obtain ⟨h1, h2, k, o, h3, h4, h5⟩ := h.dom b r hr
    exact ⟨h1, h2, k, o, h3, (hb.block r (Array.getElem?_eq_some_iff.1 h4).1).trans h4, h5⟩, h.inj, h.full⟩

theorem call_frm (hR : RunOk E run) {f : Operand} {args : Array Operand} {v : V} {m' : Mem} (hv : callX E run st f args = some (v, m')) : Frm st.m m' := by
  unfold callX at hv
  split at hv
  · simp only at hv
    split at hv
    · simp only [Option.some.injEq, Prod.mk.injEq] at hv; obtain ⟨_, rfl⟩ := hv; exact .refl _
    · split at hv
      · simp only [Option.some.injEq, Prod.mk.injEq] at hv; obtain ⟨_, rfl⟩ := hv; exact .refl _
      · exact hR.frm _ _ _ _ _ hv
  · cases hv
theorem op_frm (hR : RunOk E run) {o : Oper} {v : V} {m' : Mem} (hv : opX E run st o = some (v, m')) : Frm st.m m' := by
  unfold opX at hv
  split at hv
  · simp only [Option.some.injEq, Prod.mk.injEq] at hv; obtain ⟨_, rfl⟩ := hv; exact .refl _
  · unfold actX at hv
    split at hv
    · exact call_frm hR hv
    · exact mem_frm hv

/-- What stands behind an operation. -/
def Behind (W : World) (ρ : Loc') (m : Mem) (v : V) (m' : Mem) (a : Act) (dst : Option Tmp) (K : Act → World → Prop) : Prop :=
  ∀ ρ' x w', Ext ρ ρ' → Keep m.hn m m' ρ ρ' → DV ρ' v x → MemRel W ρ' m' w' → K (a.put dst x) w'

theorem exC_sound {c : C} {k : IntKind} {e : Exp} (h : exC c = some (k, e)) {x : Value} (hx : DC ρ c x) : x = .int k (e.eval ρ.val) := by
  unfold exC at h
  split at h
  · simp only [Option.some.injEq, Prod.mk.injEq] at h
    obtain ⟨rfl, rfl⟩ := h
    exact hx.v_inv
  · simp only [Option.some.injEq, Prod.mk.injEq] at h
    obtain ⟨rfl, rfl⟩ := h
    cases hx; rfl
  · cases h
theorem surely_some {op : BinOp} {k : IntKind} {b : Exp} (h : surely op b = true) (σ : Nat → Int) (a : Int) : ∃ n, arith op k a (b.eval σ) = some (.int k n) := by
  unfold surely at h
  cases op <;> simp only at h <;> first
    | (cases h; done)
    | exact ⟨_, rfl⟩
    | (cases b <;> first
        | (cases h; done)
        | (simp at h
           simp [arith, isShift, shiftX, intBin, Exp.eval, h]
           done)
        | (simp at h
           have h' : ¬ (_ < (0 : Int)) := Int.not_lt.2 h
           simp [arith, isShift, shiftX, intBin, Exp.eval, h']))
theorem symBin_sound (hE : EnvOk E) (hV : ρ.val = E.val) {op : BinOp} {c d r : C} (hr : symBin E op c d = some r) {x y : Value} (hx : DC ρ c x) (hy : DC ρ d y) (t : TypeId) :
    ∃ z, DC ρ r z ∧ ∀ ox oy w, (do eqGuard op t ox oy x y; binOp op t x y).run E.P w = .ok z w := by
  unfold symBin at hr
  split at hr
  · rename_i k a k' b h1 h2
    have e1 := exC_sound h1 hx
    have e2 := exC_sound h2 hy
    subst e1; subst e2
    cases hk : isShift op || decide (k = k') with
    | false => rw [hk] at hr; cases hr
    | true =>
      rw [hk] at hr
      simp only [cond_true] at hr
      cases hs : surely op b with
      | true =>
        rw [hs] at hr
        simp only [cond_true, Option.some.injEq] at hr
        subst hr
        obtain ⟨n, hn⟩ := surely_some (k := k) hs ρ.val (a.eval ρ.val)
        refine ⟨_, .ex, fun ox oy w => ?_⟩
        have e3 : Exp.eval ρ.val (.bin op k a b) = n := by simp only [Exp.eval, hn, numOf]
        rw [e3]
        simp only [eqGuard_at_int, pure_bind]
        unfold arith at hn
        cases hsh : isShift op with
        | true => rw [hsh] at hn; exact (shiftX_sound hn t w).1
        | false =>
          rw [hsh] at hn hk
          simp only [Bool.false_or, decide_eq_true_eq] at hk
          subst hk
          exact (intBin_sound hsh hn t w).1
      | false =>
        rw [hs] at hr
        simp only [cond_false] at hr
        cases hc : isCmp op with
        | false => rw [hc] at hr; cases hr
        | true =>
          rw [hc] at hr
          simp only [cond_true, Option.map_eq_some_iff] at hr
          obtain ⟨q, hq, rfl⟩ := hr
          refine ⟨.bool q, .v rfl, fun ox oy w => ?_⟩
          simp only [eqGuard_at_int, pure_bind]
          have hsh : isShift op = false := by cases op <;> first | rfl | cases hc
          rw [hsh] at hk
          simp only [Bool.false_or, decide_eq_true_eq] at hk
          subst hk
          have := hE.test op a b q hq k
          rw [← hV] at this
          exact (intBin_sound hsh this t w).1
  · cases hr
theorem symRow_int (hE : EnvOk E) (hV : ρ.val = E.val) {e : TypeId} {k0 : IntKind} (he : E.P.underlying e = some (.int k0)) (hs : sizeX E.P e = some 1) (d : Nat) (w : World) :
    ∀ (l l' : List C) (r : Bool) (xs ys pre pre' : List Value), symRow E l l' = some r → All2 (DC ρ) l xs → All2 (DC ρ) l' ys → pre.length = pre'.length →
      (forIn (m := Sem) (List.range' pre.length l.length) ((none, ()) : Option Bool × Unit) (fun i (_ : Option Bool × Unit) => do
        let x ← part e (pre ++ xs).toArray (i * 1)
        let y ← part e (pre' ++ ys).toArray (i * 1)
        let r ← Op.equalIn (d + 1) e x y
        if (!r) = true then pure (ForInStep.done (some false, ())) else pure (ForInStep.yield (none, ())))).run E.P w = .ok (if r then none else some false, ()) w
  | [], [], r, xs, ys, pre, pre', h, hx, hy, hl => by
    simp [symRow] at h; subst h; simp
  | [], _ :: _, r, xs, ys, pre, pre', h, hx, hy, hl => by simp [symRow] at h
  | _ :: _, [], r, xs, ys, pre, pre', h, hx, hy, hl => by simp [symRow] at h
  | c :: l, c' :: l', r, xs, ys, pre, pre', h, hx, hy, hl => by
    have hagg : isAggX E.P e = some false := by simp [isAggX, he]
    simp only [symRow] at h
    split at h
    · rename_i k a k' b h1 h2
      cases hk : decide (k = k') with
      | false => rw [hk] at h; cases h
      | true =>
        rw [hk] at h
        simp only [cond_true] at h
        simp only [decide_eq_true_eq] at hk
        subst hk
        split at h
        · rename_i q r1 hq hr
          simp only [Option.some.injEq] at h; subst h
          obtain ⟨x1, xs', rfl, hx1, hx2⟩ := hx.cons_inv
          obtain ⟨y1, ys', rfl, hy1, hy2⟩ := hy.cons_inv
          have e1 := exC_sound h1 hx1
          have e2 := exC_sound h2 hy1
          subst e1; subst e2
          have ht := hE.test .eql a b q hq k
          rw [← hV] at ht
          simp only [intBin, Option.some.injEq, Value.bool.injEq] at ht
          have ih := symRow_int hE hV he hs d w l l' r1 xs' ys' (pre ++ [.int k (a.eval ρ.val)]) (pre' ++ [.int k (b.eval ρ.val)]) hr hx2 hy2 (by simp [hl])
          have p1 : (part e (pre ++ Value.int k (a.eval ρ.val) :: xs').toArray (pre.length * 1)).run E.P w = .ok (.int k (a.eval ρ.val)) w := by
            simp [part, run_isAggX hagg]
          have p2 : (part e (pre' ++ Value.int k (b.eval ρ.val) :: ys').toArray (pre.length * 1)).run E.P w = .ok (.int k (b.eval ρ.val)) w := by
            simp [part, run_isAggX hagg, hl]
          simp only [List.length_cons, List.range'_succ, List.forIn_cons, Sem.run_bind, p1, p2, Result.andThen_ok, run_equalIn_int w d e k k0 _ _ he, Sem.run_ite, Sem.run_pure]
          rw [ht]
          cases q with
          | false => simp
          | true =>
            simp only [Bool.not_true, Bool.false_eq_true, if_false, Bool.true_and, Result.andThen_ok]
            simpa using ih
        · cases h
    · cases h
theorem equalIn_sym (hE : EnvOk E) (hV : ρ.val = E.val) {t e : TypeId} {n : Nat} {k0 : IntKind} {l l' : List C} {r : Bool} (hu : E.P.underlying t = some (.array n e)) (hue : E.P.underlying e = some (.int k0)) (hs : sizeX E.P e = some 1)
    (h : symRow E l l' = some r) (h1 : l.length = n) {xs ys : List Value} (hx : All2 (DC ρ) l xs) (hy : All2 (DC ρ) l' ys) (d : Nat) (w : World) :
    (Op.equalIn (d + 2) t (.agg xs.toArray) (.agg ys.toArray)).run E.P w = .ok r w := by
  have key := symRow_int (ρ := ρ) hE hV hue hs d w l l' r xs ys [] [] h hx hy rfl
  simp only [List.nil_append, List.length_nil, h1] at key
  rw [Op.equalIn]
  simp only [Sem.run_bind, run_underlying hu, Result.andThen_ok, run_sizeX hs]
  rw [Std.Legacy.Range.forIn_eq_forIn_range']
  have e1 : (Std.Legacy.Range.size [:n]) = n := by simp [Std.Legacy.Range.size]
  rw [e1]
  refine (congrArg (fun r => Result.andThen r _) key).trans ?_
  cases r <;> rfl
theorem symAgg_sound (hE : EnvOk E) (hV : ρ.val = E.val) {t : TypeId} {l l' : List C} {r : Bool} (h : symAgg E t l l' = some r) {xs ys : List Value} (hx : All2 (DC ρ) l xs) (hy : All2 (DC ρ) l' ys) (w : World) :
    (Op.equalIn 10000 t (.agg xs.toArray) (.agg ys.toArray)).run E.P w = .ok r w ∧ E.P.eqGuardType E.P.depth t = false := by
  unfold symAgg at h
  split at h
  · rename_i n e hu
    split at h
    · rename_i k0 hue hs
      cases hb : Nat.beq l.length n && Nat.beq l'.length n with
      | false => rw [hb] at h; cases h
      | true =>
        rw [hb] at h
        simp only [cond_true] at h
        simp only [Bool.and_eq_true] at hb
        refine ⟨equalIn_sym hE hV hu hue hs h (beq_t hb.1) hx hy 9998 w, ?_⟩
        obtain ⟨k, hk⟩ := depth_two E.P
        rw [hk]
        simp [Program.eqGuardType, hu, hue]
    · cases h
  · cases h
theorem pureO_sound (hE : EnvOk E) (hV : ρ.val = E.val) (h : StRel W ρ st a w) {o : Oper} {v : V} (hv : pureO E st o = some v) : ∃ x, DV ρ v x ∧ (execOp a.eval o).run E.P w = .ok (.value x) w := by
  unfold pureO at hv
  split at hv
  · rename_i u hu
    simp only [Option.some.injEq] at hv; subst hv
    exact pure_sound h hu
  · obtain ⟨dst, op, type, pos, after, guard⟩ := o
    unfold orcX at hv
    simp only at hv
    split at hv
    · rename_i op t x y ty _
      split at hv
      · rename_i c d hp hq
        simp only [Option.map_eq_some_iff] at hv
        obtain ⟨c', hc, rfl⟩ := hv
        obtain ⟨z, h1, h2⟩ := symBin_sound hE hV hc (ev1_sound h hp).one_inv (ev1_sound h hq).one_inv t
        exact ⟨z, .s (.one h1), by simp only [execOp]; rw [Sem.run_bind, h2 x y w]; rfl⟩
      · rename_i l m hp hq
        obtain ⟨xs, hx, hxs⟩ := (ev1_sound h hp).agg_inv
        obtain ⟨ys, hy, hys⟩ := (ev1_sound h hq).agg_inv
        split at hv
        · simp only [Option.map_eq_some_iff] at hv
          obtain ⟨r, hr, rfl⟩ := hv
          obtain ⟨h1, h2⟩ := symAgg_sound hE hV hr hxs hys w
          refine ⟨.bool r, .s (.one (.v rfl)), ?_⟩
          simp only [execOp, hx, hy]
          rw [Sem.run_bind, Sem.run_bind, run_eqGuard_agg w .eql t x y _ _ h2, Result.andThen_ok, run_eql_struct, h1]
          rfl
        · simp only [Option.map_eq_some_iff] at hv
          obtain ⟨r, hr, rfl⟩ := hv
          obtain ⟨h1, h2⟩ := symAgg_sound hE hV hr hxs hys w
          refine ⟨.bool !r, .s (.one (.v rfl)), ?_⟩
          simp only [execOp, hx, hy]
          rw [Sem.run_bind, Sem.run_bind, run_eqGuard_agg w .neq t x y _ _ h2, Result.andThen_ok, run_neq_struct, h1]
          rfl
        · cases hv
      · cases hv
    · rename_i s d x _
      split at hv
      · rename_i ts k k' e hs hd hx
        simp only [Option.some.injEq] at hv; subst hv
        have he : a.eval x = .int k' (e.eval ρ.val) := exC_sound (c := .ex k' e) rfl (evc_sound h hx)
        have hi := run_convert_int (P := E.P) w s d k' (e.eval ρ.val) (by simp [hs]) (by simp [Program.intKind, hd])
        exact ⟨.int k (k.wrap (e.eval ρ.val)), .s (.one .ex), by
          simp only [Program.intKind, hd] at hi
          simp [execOp, he, hi]⟩
      · cases hv
    · cases hv
theorem op_wp (hE : EnvOk E) (hR : RunOk E run) (hV : ρ.val = E.val) (h : StRel W ρ st a w) {o : Oper} {v : V} {m' : Mem} (hv : opX E run st o = some (v, m'))
    {K : Act → World → Prop} {Q : Exit → Act → World → Prop} (hK : Behind W ρ st.m v m' a o.dst K) : Oper.wp E.P o a w K Q := by
  unfold opX at hv
  split at hv
  · rename_i u hu
    simp only [Option.some.injEq, Prod.mk.injEq] at hv
    obtain ⟨rfl, rfl⟩ := hv
    obtain ⟨x, h1, h2⟩ := pureO_sound hE hV h hu
    unfold Oper.wp
    rw [h2, Oper.upon_value]
    exact hK ρ x w (Ext.refl _) (Keep.refl _ _ _) h1 h.mem
  · unfold actX at hv
    split at hv
    · rename_i f args ts hop
      unfold callX at hv
      split at hv
      · rename_i g caps l hf hl
        simp only at hv
        obtain ⟨rs, hfv, hrs⟩ := (evc_sound h hf).fn_inv
        have hargs := (args_sound h hl).append (capPtrs_sound hrs)
        have hexec : ∀ w, (execOp a.eval o).run E.P w = (callFunc g (args.toList.map a.eval ++ rs.map fun r => Value.pointer (some ⟨r, 0, none⟩)).toArray).run E.P w := fun w => by
          unfold execOp
          simp only [hop]
          have e : args.map a.eval ++ (rs.map fun r => Value.pointer (some ⟨r, 0, none⟩)).toArray = (args.toList.map a.eval ++ rs.map fun r => Value.pointer (some ⟨r, 0, none⟩)).toArray := by
            apply Array.ext'; simp
          rw [← e]
          simp [resolve, hfv, Deferred.ofValue, invoke]
        unfold Oper.wp
        rw [hexec]
        split at hv
        · rename_i u hu
          simp only [Option.some.injEq, Prod.mk.injEq] at hv
          obtain ⟨rfl, rfl⟩ := hv
          obtain ⟨x, h1, h2⟩ := hE.ext _ _ _ hu ρ _ hV hargs
          rw [h2, Oper.upon_value]
          exact hK ρ x w (Ext.refl _) (Keep.refl _ _ _) h1 h.mem
        · split at hv
          · rename_i u hu
            simp only [Option.some.injEq, Prod.mk.injEq] at hv
            obtain ⟨rfl, rfl⟩ := hv
            obtain ⟨h1, h2⟩ := hE.sum _ _ _ hu ρ _ w hV hargs
            rw [h1, Oper.upon_enter]
            refine h2.mono fun e w' he => ?_
            obtain ⟨x, rfl, hx, hb⟩ := he
            exact hK ρ x w' (Ext.refl _) (Keep.refl _ _ _) hx (h.mem.later hb)
          · obtain ⟨h1, h2⟩ := hR.calls _ _ _ _ _ hv W ρ _ w hV hargs h.mem
            rw [h1, Oper.upon_enter]
            refine h2.mono fun e w' he => ?_
            obtain ⟨x, ρ', rfl, hx1, hx2, hx3, hx4⟩ := he
            exact hK ρ' x w' hx1 hx2 hx3 hx4
      · cases hv
    · obtain ⟨x, w', ρ', h1, h2, h3, h4, h5⟩ := mem_sound (P := E.P) h hv
      unfold Oper.wp
      rcases h5 with h5 | ⟨h5, rfl⟩
      · rw [h5, Oper.upon_value]; exact hK ρ' x w' h1 h2 h3 h4
      · rw [h5, Oper.upon_skip]; exact hK ρ' undef w' h1 h2 h3 h4

theorem wanted_sound (h : StRel W ρ st a w) (ops : Array Oper) (o : Oper) : Region.wanted o (yielded ops a.tmps) = wantedX ops st o := by
  unfold Region.wanted wantedX
  cases hg : o.guard with
  | none => rfl
  | some g =>
    obtain ⟨j, want⟩ := g
    show (yielded ops a.tmps j == some want) = (yieldedX ops st j == some want)
    unfold yielded yieldedX
    cases hd : (ops[j]?).bind (·.dst) with
    | none => rfl
    | some t =>
      simp only [Option.bind_some]
      cases ht : st.tm.get t with
      | none => rw [h.none t ht]
      | some u =>
        obtain ⟨x, hx, hd'⟩ := h.some t u ht
        rw [hx]
        cases hd' with
        | tup _ => rfl
        | s k => cases k with
          | agg _ => rfl
          | one k => cases k with
            | v _ => cases x <;> rfl
            | _ => rfl

theorem wpOps_cons' {P : Program} {ops : Array Oper} {Q : Exit → Act → World → Prop} {i : Nat} {rest : List Nat} {o : Oper} (ho : ops[i]? = some o) {a : Act} {w : World}
    (h : if Region.wanted o (yielded ops a.tmps) = true then o.wp P a w (wpOps P ops Q rest) Q else wpOps P ops Q rest (a.put o.dst undef) w) : wpOps P ops Q (i :: rest) a w := by
  simp only [wpOps, ho]
  split
  · rename_i hw; simp only [hw, if_true] at h; exact .inl h
  · rename_i hw; simp only [hw] at h; exact h

/-- What stands behind a state of the runner. -/
def Comes' (W : World) (ρ : Loc') (m : Mem) (st : St) (K : Act → World → Prop) : Prop :=
  ∀ ρ' a' w', Ext ρ ρ' → Keep m.hn m st.m ρ ρ' → StRel W ρ' st a' w' → K a' w'

theorem ops_frm (hR : RunOk E run) {ops : Array Oper} : ∀ {rest : List Oper} {st st' : St}, opsX E run ops rest st = some st' → Frm st.m st'.m
  | [], st, st', hv => by simp [opsX] at hv; subst hv; exact .refl _
  | o :: rest, st, st', hv => by
    simp only [opsX] at hv
    cases hw : wantedX ops st o with
    | true =>
      simp only [hw, cond_true] at hv
      split at hv
      · rename_i v m ho
        have h1 := op_frm hR ho
        have h2 := ops_frm hR hv
        have e : (St.put ⟨st.tm, m⟩ o.dst v).m = m := by cases o.dst <;> rfl
        rw [e] at h2
        exact h1.trans h2
      · cases hv
    | false =>
      simp only [hw, cond_false] at hv
      have h2 := ops_frm hR hv
      have e : (st.put o.dst (.tup [])).m = st.m := by cases o.dst <;> rfl
      rw [e] at h2
      exact h2

theorem put_m (st : St) (d : Option Tmp) (v : V) : (st.put d v).m = st.m := by cases d <;> rfl

theorem ops_wp (hE : EnvOk E) (hR : RunOk E run) {ops : Array Oper} {Q : Exit → Act → World → Prop} : ∀ {rest : List Oper} {k : Nat} {ρ : Loc'} {st st' : St} {a : Act} {w : World}, ρ.val = E.val → rest = ops.toList.drop k → opsX E run ops rest st = some st' → StRel W ρ st a w →
    Comes' W ρ st.m st' (Q .normal) → wpOps E.P ops Q (List.range' k rest.length) a w
  | [], k, ρ, st, st', a, w, hV, _, hv, h, hQ => by
    simp [opsX] at hv; subst hv
    exact hQ ρ a w (Ext.refl _) (Keep.refl _ _ _) h
  | o :: rest, k, ρ, st, st', a, w, hV, hd, hv, h, hQ => by
    have ho : ops[k]? = some o := by
      have : (ops.toList.drop k)[0]? = some o := by rw [← hd]; rfl
      simpa using this
    have hrest : rest = ops.toList.drop (k + 1) := by
      have : (ops.toList.drop k).drop 1 = rest := by rw [← hd]; rfl
      rw [← this, List.drop_drop]
    simp only [opsX] at hv
    simp only [List.length_cons, List.range'_succ]
    refine wpOps_cons' ho ?_
    rw [wanted_sound h]
    cases hw : wantedX ops st o with
    | true =>
      simp only [hw, cond_true] at hv
      split at hv
      · rename_i v m hop
        simp only [if_true]
        refine op_wp hE hR hV h hop fun ρ' x w' h1 h2 h3 h4 => ?_
        refine ops_wp hE hR (h1.val.trans hV) hrest hv ((h.mono h1 h4).put o.dst h3) fun ρ'' a'' w'' k1 k2 k3 => ?_
        have hf := op_frm hR hop
        rw [put_m] at k2
        exact hQ ρ'' a'' w'' (h1.trans k1) (h2.trans k2 hf.hn) k3
      · cases hv
    | false =>
      simp only [hw, cond_false] at hv
      simp only [Bool.false_eq_true, if_false]
      refine ops_wp hE hR hV hrest hv (h.put o.dst (DV.undef ρ)) fun ρ'' a'' w'' k1 k2 k3 => ?_
      rw [put_m] at k2
      exact hQ ρ'' a'' w'' k1 k2 k3
end
end Go.Rx
