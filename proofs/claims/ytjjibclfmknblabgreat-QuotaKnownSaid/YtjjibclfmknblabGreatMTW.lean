/-
  THE RUNNER, COMPILED, part 6: the elder reader with calls of another kind.
  THE RUNNER, COMPILED, part 7: code.
  THE RUNNER, COMPILED, part 8: functions; one row of a table by one run.
-/
import Derived.Test.YtjjibclfmknblabGreatMTV
set_option linter.all false
namespace Go.Ry
open Go Go.RowKit

/-- The code of a function (rd = none) or of a round (the block of its loop's record). -/
def codeY (E : Env) (run : Runs) (rd : Option Nat) : Nat → Code → St → Option (Ex × St)
  | 0, _, _ => none
  | n + 1, c, st =>
    match c with
    | .skip => some (.normal, st)
    | .label _ => some (.normal, st)
    | .ret => some (.ret, st)
    | .exit id => some (.exit id, st)
    | .seq a b => match codeY E run rd n a st with
      | some (.normal, st') => codeY E run rd n b st'
      | r => r
    | .cond x a b => match st.evc x with
      | some (.v (.bool t)) => bif t then codeY E run rd n a st else codeY E run rd n b st
      | _ => none
    | .block id b => match codeY E run rd n b st with
      | some (.exit i, st') => bif Nat.beq i id then some (.normal, st') else some (.exit i, st')
      | r => r
    | .loop b => bif isMapLoop b then mapLoopX (codeY E run rd n) b st else match codeY E run rd n b st with
      | some (.normal, st') => codeY E run rd n (.loop b) st'
      | r => r
    | .scope b => bif rd.isSome then none else codeY E run rd n b st
    | .region _ ops false => (opsX E run ops ops.toList st).map fun st' => (.normal, st')
    | .region _ ops true => (drawnX E run ops st).map fun st' => (.normal, st')
    | .rangeFunc g ps assign body => match rd with
      | some b => rangeNX run b g ps assign body st
      | none => (match st.evc g with
      | some (.fn f fs caps) =>
        let m1 := st.m.push .dfr
        let l := m1.hn
        match run true f (fstPtrs fs ++ (.one (.yl l) :: capPtrs caps)) (m1.push (.loop .ready none st.tm ps.toList assign body)) with
        | some (_, m) => match m.hp.get l with
          | some (.loop s pend tm' ps' as' bo') => match s with
            | .busy => none
            | _ => some (pendX pend, ⟨st.tm, m.upd l (.loop .exhausted pend tm' ps' as' bo'), st.m.hn :: st.ds⟩)
          | _ => none
        | none => none
      | _ => none)
    | _ => none
theorem codeY_ok {E : Env} {W : Base} {run : Runs} (hE : EnvOk E W) (horc : ∀ i, E.orc i = none) (hR : RunOk E W run) : ∀ n rd, CodeOk E W rd (codeY E run rd n)
  | 0 => fun rd c st ex st' h => by simp [codeY] at h
  | n + 1 => by
    intro rd
    have ih := codeY_ok hE horc hR n rd
    intro c st ex st' h
    unfold codeY at h
    simp only at h
    split at h
    · simp only [Option.some.injEq, Prod.mk.injEq] at h; obtain ⟨rfl, rfl⟩ := h
      exact ⟨.refl _, fun r ρ a w hrd hV hs Q hQ => wpIn_skip (hQ ρ a w (Ext.refl _) (Keep.refl _ _ _) hs)⟩
    · simp only [Option.some.injEq, Prod.mk.injEq] at h; obtain ⟨rfl, rfl⟩ := h
      exact ⟨.refl _, fun r ρ a w hrd hV hs Q hQ => wpIn_label (hQ ρ a w (Ext.refl _) (Keep.refl _ _ _) hs)⟩
    · simp only [Option.some.injEq, Prod.mk.injEq] at h; obtain ⟨rfl, rfl⟩ := h
      exact ⟨.refl _, fun r ρ a w hrd hV hs Q hQ => wpIn_ret (hQ ρ a w (Ext.refl _) (Keep.refl _ _ _) hs)⟩
    · simp only [Option.some.injEq, Prod.mk.injEq] at h; obtain ⟨rfl, rfl⟩ := h
      exact ⟨.refl _, fun r ρ a w hrd hV hs Q hQ => wpIn_exit (hQ ρ a w (Ext.refl _) (Keep.refl _ _ _) hs)⟩
    · -- a sequence
      rename_i x y
      split at h
      · rename_i st1 h1
        obtain ⟨f1, w1⟩ := ih _ _ _ _ h1
        obtain ⟨f2, w2⟩ := ih _ _ _ _ h
        refine ⟨f1.trans f2, fun r ρ a w hrd hV hs Q hQ => wpIn_seq (w1 r ρ a w hrd hV hs _ fun ρ' a' w' k1 k2 k3 => ?_)⟩
        exact w2 r ρ' a' w' (hrd.ext k1) (k1.val.trans hV) k3 Q fun ρ'' a'' w'' q1 q2 q3 => hQ ρ'' a'' w'' (k1.trans q1) (k2.trans q2 f1.hn) q3
      · rename_i hno
        obtain ⟨f1, w1⟩ := ih _ _ _ _ h
        refine ⟨f1, fun r ρ a w hrd hV hs Q hQ => wpIn_seq (w1 r ρ a w hrd hV hs _ fun ρ' a' w' k1 k2 k3 => ?_)⟩
        cases ex with
        | normal => exact absurd h (hno _)
        | exit id => exact hQ ρ' a' w' k1 k2 k3
        | ret => exact hQ ρ' a' w' k1 k2 k3
    · -- a branch
      rename_i x y z
      split at h
      · rename_i t hc
        cases t with
        | true =>
          simp only [cond_true] at h
          obtain ⟨f1, w1⟩ := ih _ _ _ _ h
          exact ⟨f1, fun r ρ a w hrd hV hs Q hQ => wpIn_cond_true (evc_sound hs hc).v_inv (w1 r ρ a w hrd hV hs Q hQ)⟩
        | false =>
          simp only [cond_false] at h
          obtain ⟨f1, w1⟩ := ih _ _ _ _ h
          exact ⟨f1, fun r ρ a w hrd hV hs Q hQ => wpIn_cond_false (evc_sound hs hc).v_inv (w1 r ρ a w hrd hV hs Q hQ)⟩
      · cases h
    · -- a block
      rename_i id b
      split at h
      · rename_i i st1 h1
        obtain ⟨f1, w1⟩ := ih _ _ _ _ h1
        cases hb : Nat.beq i id with
        | true =>
          rw [hb] at h
          simp only [cond_true, Option.some.injEq, Prod.mk.injEq] at h
          obtain ⟨rfl, rfl⟩ := h
          refine ⟨f1, fun r ρ a w hrd hV hs Q hQ => wpIn_block (w1 r ρ a w hrd hV hs _ fun ρ' a' w' k1 k2 k3 => ?_)⟩
          simp only [exOf, Exit.inBlock, beq_t hb, if_true]
          exact hQ ρ' a' w' k1 k2 k3
        | false =>
          rw [hb] at h
          simp only [cond_false, Option.some.injEq, Prod.mk.injEq] at h
          obtain ⟨rfl, rfl⟩ := h
          refine ⟨f1, fun r ρ a w hrd hV hs Q hQ => wpIn_block (w1 r ρ a w hrd hV hs _ fun ρ' a' w' k1 k2 k3 => ?_)⟩
          simp only [exOf, Exit.inBlock, beq_f hb, if_false]
          exact hQ ρ' a' w' k1 k2 k3
      · rename_i hno
        obtain ⟨f1, w1⟩ := ih _ _ _ _ h
        refine ⟨f1, fun r ρ a w hrd hV hs Q hQ => wpIn_block (w1 r ρ a w hrd hV hs _ fun ρ' a' w' k1 k2 k3 => ?_)⟩
        cases ex with
        | normal => exact hQ ρ' a' w' k1 k2 k3
        | exit i => exact absurd h (hno _ _)
        | ret => exact hQ ρ' a' w' k1 k2 k3
    · -- a loop
      rename_i b
      cases hml : isMapLoop b with
      | true =>
        rw [hml] at h
        simp only [cond_true] at h
        exact mapLoop_ok ih h
      | false =>
      rw [hml] at h
      simp only [cond_false] at h
      have key : ∀ k st ex st', k ≤ n + 1 → codeY E run rd k (.loop b) st = some (ex, st') → Frm st.m st'.m ∧ ∀ (r : Option Nat) (ρ : Loc') (a : Act) (w : World), RdOk rd r ρ → ρ.val = E.val → StRel W ρ st a w → ∀ Q : Exit → Act → World → Prop,
          (∀ ρ' a' w', Ext ρ ρ' → Keep st.m.hn st.m st'.m ρ ρ' → StRel W ρ' st' a' w' → Q (exOf ex) a' w') → Code.roundsIn (fen r) 0 E.P b Q k a w := by
        intro k
        induction k with
        | zero => intro st ex st' _ hh; simp [codeY] at hh
        | succ k ihk =>
          intro st ex st' hk hh
          have ihc : CodeOk E W rd (codeY E run rd k) := codeY_ok hE horc hR k rd
          unfold codeY at hh
          simp only [hml, cond_false] at hh
          split at hh
          · rename_i st1 h1
            obtain ⟨f1, w1⟩ := ihc _ _ _ _ h1
            obtain ⟨f2, w2⟩ := ihk st1 ex st' (by omega) hh
            refine ⟨f1.trans f2, fun r ρ a w hrd hV hs Q hQ => ?_⟩
            rw [roundsIn_succ]
            refine w1 r ρ a w hrd hV hs _ fun ρ' a' w' k1 k2 k3 => ?_
            exact w2 r ρ' a' w' (hrd.ext k1) (k1.val.trans hV) k3 Q fun ρ'' a'' w'' q1 q2 q3 => hQ ρ'' a'' w'' (k1.trans q1) (k2.trans q2 f1.hn) q3
          · rename_i hno
            obtain ⟨f1, w1⟩ := ihc _ _ _ _ hh
            refine ⟨f1, fun r ρ a w hrd hV hs Q hQ => ?_⟩
            rw [roundsIn_succ]
            refine w1 r ρ a w hrd hV hs _ fun ρ' a' w' k1 k2 k3 => ?_
            cases ex with
            | normal => exact absurd hh (hno _)
            | exit id => exact hQ ρ' a' w' k1 k2 k3
            | ret => exact hQ ρ' a' w' k1 k2 k3
      have hh : codeY E run rd (n + 1) (.loop b) st = some (ex, st') := by unfold codeY; simp only [hml, cond_false]; exact h
      obtain ⟨f1, w1⟩ := key (n + 1) st ex st' (Nat.le_refl _) hh
      exact ⟨f1, fun r ρ a w hrd hV hs Q hQ => wpIn_loop_rounds (n + 1) (w1 r ρ a w hrd hV hs Q hQ)⟩
    · -- a scope
      rename_i b
      cases rd with
      | some _ => cases h
      | none =>
        simp only [Option.isSome, cond_false] at h
        obtain ⟨f1, w1⟩ := ih _ _ _ _ h
        refine ⟨f1, fun r ρ a w hrd hV hs Q hQ => ?_⟩
        cases r with
        | some _ => cases hrd
        | none =>
          refine (wpIn_wide (n := 0)).2 (wp_scope_straight ((wpIn_wide (n := 0)).1 (w1 none ρ a w True.intro hV hs _ fun ρ' a' w' k1 k2 k3 => ?_)))
          cases ex <;> exact hQ ρ' a' w' k1 k2 k3
    · -- a region
      rename_i id ops
      simp only [Option.map_eq_some_iff, Prod.mk.injEq] at h
      obtain ⟨st1, h1, rfl, rfl⟩ := h
      refine ⟨ops_frm hR h1, fun r ρ a w hrd hV hs Q hQ => wpIn_region ?_⟩
      have := ops_wp (Q := Q) r hE hR hV (k := 0) (by simp) h1 hs fun ρ' a' w' k1 k2 k3 => hQ ρ' a' w' k1 k2 k3
      rw [List.range_eq_range']
      simpa using this
    · -- a region that draws
      rename_i id ops
      simp only [Option.map_eq_some_iff, Prod.mk.injEq] at h
      obtain ⟨st1, h1, rfl, rfl⟩ := h
      obtain ⟨k1, k2⟩ := drawn_ok (id := id) hE horc hR h1
      exact ⟨k1, fun r ρ a w hrd hV hs Q hQ => k2 r ρ a w hV hs Q hQ⟩
    · -- a range over a function
      rename_i g ps assign body
      cases rd with
      | some b0 => exact rangeN_ok hR h
      | none =>
        simp only at h
        split at h
        · rename_i f fs caps hg
          split at h
          · rename_i v m3 hcall
            split at h
            · rename_i s pend tm' ps' as' bo' hl
              have hfc := hR.frm _ _ _ _ _ _ hcall
              have key : s ≠ .busy ∧ ex = pendX pend ∧ st' = ⟨st.tm, m3.upd (st.m.push .dfr).hn (.loop .exhausted pend tm' ps' as' bo'), st.m.hn :: st.ds⟩ := by
                cases s <;> simp only [Option.some.injEq, Prod.mk.injEq] at h <;> first | (cases h; done) | exact ⟨by simp, h.1.symm, h.2.symm⟩
              obtain ⟨hs1, rfl, rfl⟩ := key
              have f1 : Frm st.m (m3.upd (st.m.push .dfr).hn (.loop .exhausted pend tm' ps' as' bo')) := ((Frm.push _ _).trans (Frm.push _ _)).trans (hfc.trans (upd_frm _ _ _))
              refine ⟨f1, fun r ρ a w hrd hV hs Q hQ => ?_⟩
              cases r with
              | some _ => cases hrd
              | none =>
                obtain ⟨vs, rs, hfv, hfs, hrs⟩ := (evc_sound hs hg).fn_inv
                refine range_fen hfv fun rec e1 e2 e3 e4 e5 e6 => ?_
                have hp1 := hs.mem.push (k := .dfr) (o := .deferred (some [])) .dfr
                have hE1 : Ext ρ (Loc'.add ρ st.m.hn w.heap.size (osz (.deferred (some [])))) := Ext.add hs.mem.hn_none
                have htm : TmRel (Loc'.add ρ st.m.hn w.heap.size (osz (.deferred (some [])))) st.tm a.tmps := (TmRel.mk hs.some hs.none).mono hE1
                have hrec : rec = { state := .ready, pending := (none : Option Ex).map jumpC, fn := rec.fn, tmps := a.tmps, params := ps.toList.toArray, assign := assign, body := body, defers := rec.defers } := by
                  cases rec; simp at *; simp [*]
                have hd2 : DB (Loc'.add ρ st.m.hn w.heap.size (osz (.deferred (some [])))) (.loop .ready none st.tm ps.toList assign body) (.loop rec) := by
                  rw [hrec]; exact .loop htm
                have hp2 := hp1.push hd2
                have hE2 := Ext.add (s := osz (.loop rec)) (r := w.heap.size + 1) hp1.hn_none
                have e7 : ({ w with heap := w.heap.push (Obj.deferred (some [])) } : World).heap.size = w.heap.size + 1 := by simp
                rw [e7] at hp2
                generalize hρ1 : Loc'.add ρ st.m.hn w.heap.size (osz (.deferred (some []))) = ρ1 at *
                generalize hρ2 : Loc'.add ρ1 (st.m.push .dfr).hn (w.heap.size + 1) (osz (.loop rec)) = ρ2 at *
                have b1 : ρ2 st.m.hn = some w.heap.size := hE2.loc _ _ (by rw [← hρ1]; exact add_same _ _ _)
                have b2 : ρ2 (st.m.push .dfr).hn = some (w.heap.size + 1) := by rw [← hρ2]; exact add_same _ _ _
                have hE12 := hE1.trans hE2
                have hargs : All2 (D1 ρ2) (fstPtrs fs ++ (.one (.yl (st.m.push .dfr).hn) :: capPtrs caps)) (vs ++ (.func (.yield (w.heap.size + 1)) #[] #[] :: rs.map fun r => Value.pointer (some ⟨r, 0, none⟩))) :=
                  (fstPtrs_sound (hfs.mono fun _ _ ⟨q, q1, q2⟩ => ⟨q, hE12.loc _ _ q1, q2⟩)).append (.cons (.one (.yl b2)) (capPtrs_sound (hrs.mono fun _ _ q => hE12.loc _ _ q)))
                obtain ⟨c1, c2⟩ := hR.calls _ _ _ _ _ hcall ρ2 _ _ (hE12.val.trans hV) hargs hp2
                refine ⟨c1, c2.mono ?_⟩
                rintro en w3 ⟨x, ρ3, rfl, x1, x2, x3, x4⟩
                obtain ⟨rec3, u1, u2, u3, u4, u5, u6, u7, u8⟩ := loop_rec x4 (x1.loc _ _ b2) hl
                have hend := run_endLoop (P := E.P) u1 (by rw [u2]; exact hs1)
                refine ⟨_, _, hend, ?_⟩
                have hm4 := u8 .exhausted pend
                have e8 : ({ rec3 with state := .exhausted, pending := pend.map jumpC } : Loop) = { rec3 with state := .exhausted } := by
                  rw [← u3]
                rw [e8] at hm4
                have hE13 := hE12.trans x1
                have hst : StRel W ρ3 ⟨st.tm, m3.upd (st.m.push .dfr).hn (.loop .exhausted pend tm' ps' as' bo'), st.m.hn :: st.ds⟩ { a with defers := { target := .collected w.heap.size, args := #[] } :: a.defers } (w3.putObj (w.heap.size + 1) (.loop { rec3 with state := .exhausted })) :=
                  ⟨fun t v hv => let ⟨x, h1, h2⟩ := hs.some t v hv; ⟨x, h1, h2.mono hE13⟩, hs.none, .cons ⟨_, x1.loc _ _ b1, rfl⟩ (hs.defers.mono fun _ _ ⟨D, q1, q2⟩ => ⟨D, hE13.loc _ _ q1, q2⟩), hm4⟩
                have hk : Keep st.m.hn st.m (m3.upd (st.m.push .dfr).hn (.loop .exhausted pend tm' ps' as' bo')) ρ ρ3 := by
                  have k1 : Keep st.m.hn st.m ((st.m.push .dfr).push (.loop .ready none st.tm ps.toList assign body)) ρ ρ2 := by
                    rw [← hρ2, ← hρ1]
                    exact Keep.push.trans Keep.push (Nat.le_succ _)
                  refine (k1.trans x2 (Nat.le_trans (Nat.le_succ _) (Nat.le_succ _))).trans (Keep.upd (n := st.m.hn) (x1.loc _ _ b2)) (Nat.le_refl _)
                have hfin := hQ ρ3 _ _ hE13 hk hst
                rw [u3] at hfin
                rw [u3]
                cases pend with
                | none => exact hfin
                | some e =>
                  cases e with
                  | normal => exact wpIn_skip hfin
                  | exit id => exact wpIn_exit hfin
                  | ret => exact wpIn_ret hfin
            · cases h
          · cases h
        · cases h
    · cases h
theorem codeR_eq (E : Env) (run : Runs) : ∀ n rd c st, codeR E run n rd c st = codeY E run rd n c st
  | 0, rd, c, st => rfl
  | n + 1, rd, c, st => by
    have ih : ∀ rd, codeR E run n rd = codeY E run rd n := fun rd => by funext c st; exact codeR_eq E run n rd c st
    show mapOr (codeR E run n rd) c st (stepF E run (codeR E run n rd) rd c st) = _
    rw [ih]
    unfold stepF
    conv => rhs; unfold codeY
    cases c with
    | cond x a b =>
      simp only [mapOr, condF, evcF_eq]
      cases st.evc x with
      | none => rfl
      | some c =>
        cases c with
        | v x => cases x with
          | bool t => cases t <;> rfl
          | _ => rfl
        | _ => rfl
    | seq a b =>
      simp only [mapOr, seqF]
      cases codeY E run rd n a st with
      | none => rfl
      | some r => obtain ⟨e, st'⟩ := r; cases e <;> rfl
    | block id b =>
      simp only [mapOr, blockF]
      cases codeY E run rd n b st with
      | none => rfl
      | some r => obtain ⟨e, st'⟩ := r; cases e <;> rfl
    | loop b =>
      simp only [mapOr, loopF]
      cases isMapLoop b with
      | true => rfl
      | false =>
      simp only [cond_false]
      cases codeY E run rd n b st with
      | none => rfl
      | some r => obtain ⟨e, st'⟩ := r; cases e <;> rfl
    | region id ops d =>
      cases d with
      | false => simp only [mapOr, regionF, opsF_eq, normF_eq]
      | true =>
        simp only [mapOr, regionD, drawnF_eq, normF_eq]
    | rangeFunc g ps as bo =>
      cases rd with
      | some b => exact rangeNF_eq _ b g ps as bo st
      | none => exact rangeF_eq _ g ps as bo st
    | _ => rfl
end Go.Ry
namespace Go.Ry
open Go Go.RowKit

theorem ofF_congr {α : Type} : ∀ (k s : Nat) (f g : Nat → α), (∀ i, i < s → f i = g i) → Tr.ofF k s f = Tr.ofF k s g
  | 0, _, _, _, _ => rfl
  | k + 1, s, f, g, h => by
    unfold Tr.ofF
    cases hs : Nat.beq s 0 with
    | true => rfl
    | false =>
      have hs0 := beq_f hs
      have e : Nat.pred s = s - 1 := rfl
      simp only [cond_false]
      rw [ofF_congr k (s / 2) _ (fun j => g (2 * j + 1)) (fun i hi => h _ (by omega)), h 0 (by omega), ofF_congr k (Nat.pred s / 2) _ (fun j => g (2 * j + 2)) (fun i hi => h _ (by rw [e] at hi; omega))]
theorem shape_eq : ∀ (k s : Nat) (t : Tr V), s < 2 ^ k → shapeT k s t = true → t = Tr.ofF k s fun i => (t.get i).getD v0
  | 0, s, t, _, h => by
    cases t with
    | e => rfl
    | n l x r => cases h
  | k + 1, s, t, hs, h => by
    have h2 : 2 ^ (k + 1) = 2 * 2 ^ k := by rw [Nat.pow_succ]; omega
    unfold shapeT at h
    unfold Tr.ofF
    cases hb : Nat.beq s 0 with
    | true =>
      rw [hb] at h
      cases t with
      | e => rfl
      | n l x r => cases h
    | false =>
      have hs0 := beq_f hb
      rw [hb] at h
      cases t with
      | e => cases h
      | n l x r =>
        simp only [cond_false, Bool.and_eq_true] at h
        have e : Nat.pred s = s - 1 := rfl
        have hl := shape_eq k (s / 2) l (by omega) h.1
        have hr := shape_eq k (Nat.pred s / 2) r (by rw [e]; omega) h.2
        have g1 : ∀ j, (Tr.n l x r).get (2 * j + 1) = l.get j := fun j => by
          have a1 : Nat.beq (2 * j + 1) 0 = false := rfl
          have a2 : Nat.beq (Nat.mod (2 * j + 1) 2) 1 = true := by
            have : Nat.mod (2 * j + 1) 2 = 1 := by show (2 * j + 1) % 2 = 1; omega
            rw [this]; rfl
          have a3 : Nat.div (2 * j + 1) 2 = j := by show (2 * j + 1) / 2 = j; omega
          simp only [Tr.get, a1, a2, a3, cond_true, cond_false]
        have g2 : ∀ j, (Tr.n l x r).get (2 * j + 2) = r.get j := fun j => by
          have a1 : Nat.beq (2 * j + 2) 0 = false := rfl
          have a2 : Nat.beq (Nat.mod (2 * j + 2) 2) 1 = false := by
            have : Nat.mod (2 * j + 2) 2 = 0 := by show (2 * j + 2) % 2 = 0; omega
            rw [this]; rfl
          have a3 : Nat.pred (Nat.div (2 * j + 2) 2) = j := by
            have : Nat.div (2 * j + 2) 2 = j + 1 := by show (2 * j + 2) / 2 = j + 1; omega
            rw [this]; rfl
          simp only [Tr.get, a1, a2, a3, cond_false]
        have g0 : (Tr.n l x r).get 0 = some x := rfl
        simp only [cond_false, g1, g2, g0, Option.getD_some]
        rw [← hl, ← hr]
theorem getV_eq (t : Tr V) (i : Nat) : getV t i = (t.get i).getD v0 := by
  unfold getV
  rw [getR_eq]
  cases t.get i <;> rfl
theorem ofTr_get (t : Tr V) {i : Nat} (hi : i < 128) : (ofTr t).get i = (t.get i).getD v0 := by
  have h : ∀ a, a < 16 → ∀ b, b < 8 → ((ofTr t).get8 a).get b = getV t (8 * a + b) := fun a ha b hb => by
    match a, ha with
    | 0, _ => match b, hb with
      | 0, _ | 1, _ | 2, _ | 3, _ | 4, _ | 5, _ | 6, _ | 7, _ => rfl
    | 1, _ => match b, hb with
      | 0, _ | 1, _ | 2, _ | 3, _ | 4, _ | 5, _ | 6, _ | 7, _ => rfl
    | 2, _ => match b, hb with
      | 0, _ | 1, _ | 2, _ | 3, _ | 4, _ | 5, _ | 6, _ | 7, _ => rfl
    | 3, _ => match b, hb with
      | 0, _ | 1, _ | 2, _ | 3, _ | 4, _ | 5, _ | 6, _ | 7, _ => rfl
    | 4, _ => match b, hb with
      | 0, _ | 1, _ | 2, _ | 3, _ | 4, _ | 5, _ | 6, _ | 7, _ => rfl
    | 5, _ => match b, hb with
      | 0, _ | 1, _ | 2, _ | 3, _ | 4, _ | 5, _ | 6, _ | 7, _ => rfl
    | 6, _ => match b, hb with
      | 0, _ | 1, _ | 2, _ | 3, _ | 4, _ | 5, _ | 6, _ | 7, _ => rfl
    | 7, _ => match b, hb with
      | 0, _ | 1, _ | 2, _ | 3, _ | 4, _ | 5, _ | 6, _ | 7, _ => rfl
    | 8, _ => match b, hb with
      | 0, _ | 1, _ | 2, _ | 3, _ | 4, _ | 5, _ | 6, _ | 7, _ => rfl
    | 9, _ => match b, hb with
      | 0, _ | 1, _ | 2, _ | 3, _ | 4, _ | 5, _ | 6, _ | 7, _ => rfl
    | 10, _ => match b, hb with
      | 0, _ | 1, _ | 2, _ | 3, _ | 4, _ | 5, _ | 6, _ | 7, _ => rfl
    | 11, _ => match b, hb with
      | 0, _ | 1, _ | 2, _ | 3, _ | 4, _ | 5, _ | 6, _ | 7, _ => rfl
    | 12, _ => match b, hb with
      | 0, _ | 1, _ | 2, _ | 3, _ | 4, _ | 5, _ | 6, _ | 7, _ => rfl
    | 13, _ => match b, hb with
      | 0, _ | 1, _ | 2, _ | 3, _ | 4, _ | 5, _ | 6, _ | 7, _ => rfl
    | 14, _ => match b, hb with
      | 0, _ | 1, _ | 2, _ | 3, _ | 4, _ | 5, _ | 6, _ | 7, _ => rfl
    | 15, _ => match b, hb with
      | 0, _ | 1, _ | 2, _ | 3, _ | 4, _ | 5, _ | 6, _ | 7, _ => rfl
    | q + 16, h => exact absurd h (by omega)
  unfold R64.get
  rw [blt_i hi]
  simp only [cond_true]
  rw [h _ (by omega) _ (by omega), getV_eq, Nat.div_add_mod]
theorem tm_ofTr {n : Nat} (hn : n ≤ 128) {t : Tr V} (h : shapeT 8 n t = true) : t = tmOf n (ofTr t) := by
  refine (shape_eq 8 n t (by show n < 256; omega) h).trans ?_
  exact ofF_congr 8 n _ _ fun i hi => (ofTr_get t (by omega)).symm
abbrev Wp := (Exit → Act → World → Prop) → Act → World → Prop
/-- From one state to another one. -/
def TriP (E : Env) (W : Base) (wp : Wp) (st : St) (ex : Ex) (st' : St) : Prop :=
  Frm st.m st'.m ∧ ∀ (ρ : Loc') (a : Act) (w : World), ρ.val = E.val → StRel W ρ st a w → ∀ Q : Exit → Act → World → Prop,
    (∀ ρ' a' w', Ext ρ ρ' → Keep st.m.hn st.m st'.m ρ ρ' → StRel W ρ' st' a' w' → Q (exOf ex) a' w') → wp Q a w
def OutP (E : Env) (W : Base) (n : Nat) (wp : Wp) (r : R64) (m : Mem) (ds : List Nat) : Rz → Prop
  | .fail => True
  | .nor r' m' ds' => TriP E W wp ⟨tmOf n r, m, ds⟩ .normal ⟨tmOf n r', m', ds'⟩
  | .ret r' m' ds' => TriP E W wp ⟨tmOf n r, m, ds⟩ .ret ⟨tmOf n r', m', ds'⟩
  | .ext i r' m' ds' => TriP E W wp ⟨tmOf n r, m, ds⟩ (.exit i) ⟨tmOf n r', m', ds'⟩
abbrev wpC (E : Env) (fr : Option Nat) (c : Code) : Wp := fun Q a w => c.wpIn (fen fr) 0 E.P Q a w
/-- Code, compiled: of a function's frame, or of a round's. -/
def CSim (E : Env) (n : Nat) (rd : Bool) (c : Code) (cc : CC) : Prop := ∀ W run, EnvOk E W → RunOk E W run → ∀ fr : Option Nat, fr.isSome = rd → ∀ r m ds, OutP E W n (wpC E fr c) r m ds (cc run r m ds)
section
variable {E : Env} {n : Nat} {rd : Bool}
theorem TriP.same {W : Base} {wp : Wp} {st : St} {ex : Ex} (h : ∀ a w Q, Q (exOf ex) a w → wp Q a w) : TriP E W wp st ex st :=
  ⟨.refl _, fun ρ a w hV hs Q hQ => h a w Q (hQ ρ a w (Ext.refl _) (Keep.refl _ _ _) hs)⟩
theorem skip_sim : CSim E n rd .skip skipC := fun W run hE hR fr hfr r m ds => TriP.same fun a w Q h => wpIn_skip h
theorem label_sim {l : Nat} : CSim E n rd (.label l) skipC := fun W run hE hR fr hfr r m ds => TriP.same fun a w Q h => wpIn_label h
theorem ret_sim : CSim E n rd .ret retC := fun W run hE hR fr hfr r m ds => TriP.same fun a w Q h => wpIn_ret h
theorem exit_sim {i : Nat} : CSim E n rd (.exit i) (exitC i) := fun W run hE hR fr hfr r m ds => TriP.same fun a w Q h => wpIn_exit h
theorem TriP.seq {W : Base} {wp1 wp2 wp : Wp} {st st1 st2 : St} {ex : Ex} (h1 : TriP E W wp1 st .normal st1) (h2 : TriP E W wp2 st1 ex st2)
    (h : ∀ a w Q, wp1 (Exit.then (wp2 Q) Q) a w → wp Q a w) : TriP E W wp st ex st2 := by
  refine ⟨h1.1.trans h2.1, fun ρ a w hV hs Q hQ => h a w Q (h1.2 ρ a w hV hs _ fun ρ' a' w' k1 k2 k3 => ?_)⟩
  exact h2.2 ρ' a' w' (k1.val.trans hV) k3 Q fun ρ'' a'' w'' q1 q2 q3 => hQ ρ'' a'' w'' (k1.trans q1) (k2.trans q2 h1.1.hn) q3
theorem TriP.out {W : Base} {wp1 wp2 wp : Wp} {st st1 : St} {ex : Ex} (hx : ex ≠ .normal) (h1 : TriP E W wp1 st ex st1)
    (h : ∀ a w Q, wp1 (Exit.then (wp2 Q) Q) a w → wp Q a w) : TriP E W wp st ex st1 := by
  refine ⟨h1.1, fun ρ a w hV hs Q hQ => h a w Q (h1.2 ρ a w hV hs _ fun ρ' a' w' k1 k2 k3 => ?_)⟩
  cases ex with
  | normal => exact absurd rfl hx
  | exit id => exact hQ ρ' a' w' k1 k2 k3
  | ret => exact hQ ρ' a' w' k1 k2 k3
theorem OutP.seq {W : Base} {wp1 wp2 wp : Wp} {ds : List Nat} {r : R64} {m : Mem} {x : Rz} {f : R64 → Mem → List Nat → Rz} (h1 : OutP E W n wp1 r m ds x) (h2 : ∀ r m ds, OutP E W n wp2 r m ds (f r m ds))
    (h : ∀ a w Q, wp1 (Exit.then (wp2 Q) Q) a w → wp Q a w) : OutP E W n wp r m ds (resK x f) := by
  cases x with
  | fail => exact True.intro
  | ret r' m' ds' => exact h1.out (fun hc => by cases hc) h
  | ext i r' m' ds' => exact h1.out (fun hc => by cases hc) h
  | nor r' m' ds' =>
    have h3 := h2 r' m' ds'
    show OutP E W n wp r m ds (f r' m' ds')
    revert h3
    generalize f r' m' ds' = y
    intro h3
    cases y with
    | fail => exact True.intro
    | nor _ _ _ => exact TriP.seq h1 h3 h
    | ret _ _ _ => exact TriP.seq h1 h3 h
    | ext _ _ _ _ => exact TriP.seq h1 h3 h
theorem seq_sim {a b : Code} {ca cb : CC} (ha : CSim E n rd a ca) (hb : CSim E n rd b cb) : CSim E n rd (.seq a b) (seqC ca cb) := fun W run hE hR fr hfr r m ds =>
  OutP.seq (wp2 := wpC E fr b) (ha W run hE hR fr hfr r m ds) (fun r m ds => hb W run hE hR fr hfr r m ds) fun a w Q h => wpIn_seq h
theorem OutP.mono {W : Base} {wp wp' : Wp} {ds : List Nat} {r : R64} {m : Mem} {x : Rz} (h : OutP E W n wp r m ds x) (hw : ∀ ρ a w, ρ.val = E.val → StRel W ρ ⟨tmOf n r, m, ds⟩ a w → ∀ Q, wp Q a w → wp' Q a w) : OutP E W n wp' r m ds x := by
  cases x with
  | fail => exact True.intro
  | nor r' m' ds' => exact ⟨h.1, fun ρ a w hV hs Q hQ => hw ρ a w hV hs Q (h.2 ρ a w hV hs Q hQ)⟩
  | ret r' m' ds' => exact ⟨h.1, fun ρ a w hV hs Q hQ => hw ρ a w hV hs Q (h.2 ρ a w hV hs Q hQ)⟩
  | ext i r' m' ds' => exact ⟨h.1, fun ρ a w hV hs Q hQ => hw ρ a w hV hs Q (h.2 ρ a w hV hs Q hQ)⟩
theorem cond_sim {x : Operand} {g : Get} {a b : Code} {ca cb : CC} (hg : IsG n x g) (ha : CSim E n rd a ca) (hb : CSim E n rd b cb) : CSim E n rd (.cond x a b) (condC g ca cb) := fun W run hE hR fr hfr r m ds => by
  unfold condC
  rcases vBool_cases (g r) (fun t => Bool.rec (motive := fun _ => Rz) (cb run r m ds) (ca run r m ds) t) Rz.fail with ⟨t, h1, h2⟩ | h2
  · rw [h2]
    have hev : St.evc ⟨tmOf n r, m, ds⟩ x = some (.v (.bool t)) := evc_of ((hg r m ds).trans (by rw [h1]))
    cases t with
    | true => exact (ha W run hE hR fr hfr r m ds).mono fun ρ a w hV hs Q h => wpIn_cond_true (evc_sound hs hev).v_inv h
    | false => exact (hb W run hE hR fr hfr r m ds).mono fun ρ a w hV hs Q h => wpIn_cond_false (evc_sound hs hev).v_inv h
  · rw [h2]; exact True.intro
theorem block_sim {id : Nat} {b : Code} {cb : CC} (hb : CSim E n rd b cb) : CSim E n rd (.block id b) (blockC id cb) := fun W run hE hR fr hfr r m ds => by
  have h := hb W run hE hR fr hfr r m ds
  unfold blockC
  revert h
  generalize cb run r m ds = y
  intro h
  cases y with
  | fail => exact True.intro
  | nor r' m' ds' => exact ⟨h.1, fun ρ a w hV hs Q hQ => wpIn_block (h.2 ρ a w hV hs _ fun ρ' a' w' k1 k2 k3 => hQ ρ' a' w' k1 k2 k3)⟩
  | ret r' m' ds' => exact ⟨h.1, fun ρ a w hV hs Q hQ => wpIn_block (h.2 ρ a w hV hs _ fun ρ' a' w' k1 k2 k3 => hQ ρ' a' w' k1 k2 k3)⟩
  | ext i r' m' ds' =>
    cases hi : Nat.beq i id with
    | true =>
      show OutP E W n (wpC E fr (.block id b)) r m ds (Bool.rec (motive := fun _ => Rz) (.ext i r' m' ds') (.nor r' m' ds') (Nat.beq i id))
      rw [hi]
      refine ⟨h.1, fun ρ a w hV hs Q hQ => wpIn_block (h.2 ρ a w hV hs _ fun ρ' a' w' k1 k2 k3 => ?_)⟩
      simp only [exOf, Exit.inBlock, beq_t hi, if_true]
      exact hQ ρ' a' w' k1 k2 k3
    | false =>
      show OutP E W n (wpC E fr (.block id b)) r m ds (Bool.rec (motive := fun _ => Rz) (.ext i r' m' ds') (.nor r' m' ds') (Nat.beq i id))
      rw [hi]
      refine ⟨h.1, fun ρ a w hV hs Q hQ => wpIn_block (h.2 ρ a w hV hs _ fun ρ' a' w' k1 k2 k3 => ?_)⟩
      simp only [exOf, Exit.inBlock, beq_f hi, if_false]
      exact hQ ρ' a' w' k1 k2 k3
theorem loop_sim {L : Nat} {b : Code} {cb : CC} (hb : CSim E n rd b cb) : CSim E n rd (.loop b) (loopC L cb) := fun W run hE hR fr hfr r m ds => by
  have key : ∀ k r m ds, OutP E W n (fun Q a w => Code.roundsIn (fen fr) 0 E.P b Q k a w) r m ds (loopC k cb run r m ds) := by
    intro k
    induction k with
    | zero => intro r m ds; exact True.intro
    | succ k ih =>
      intro r m ds
      exact OutP.seq (wp2 := fun Q a w => Code.roundsIn (fen fr) 0 E.P b Q k a w) (hb W run hE hR fr hfr r m ds) ih fun a w Q h => by rw [roundsIn_succ]; exact h
  exact (key L r m ds).mono fun ρ a w hV hs Q h => wpIn_loop_rounds L h
theorem scope_sim {b : Code} {cb : CC} (hb : CSim E n false b cb) : CSim E n false (.scope b) cb := fun W run hE hR fr hfr r m ds => by
  have h := hb W run hE hR fr hfr r m ds
  cases fr with
  | some _ => cases hfr
  | none =>
  revert h
  generalize cb run r m ds = y
  intro h
  cases y with
  | fail => exact True.intro
  | nor r' m' ds' => exact ⟨h.1, fun ρ a w hV hs Q hQ => (wpIn_wide (n := 0)).2 (wp_scope_straight ((wpIn_wide (n := 0)).1 (h.2 ρ a w hV hs _ fun ρ' a' w' k1 k2 k3 => hQ ρ' a' w' k1 k2 k3)))⟩
  | ret r' m' ds' => exact ⟨h.1, fun ρ a w hV hs Q hQ => (wpIn_wide (n := 0)).2 (wp_scope_straight ((wpIn_wide (n := 0)).1 (h.2 ρ a w hV hs _ fun ρ' a' w' k1 k2 k3 => hQ ρ' a' w' k1 k2 k3)))⟩
  | ext i r' m' ds' => exact ⟨h.1, fun ρ a w hV hs Q hQ => (wpIn_wide (n := 0)).2 (wp_scope_straight ((wpIn_wide (n := 0)).1 (h.2 ρ a w hV hs _ fun ρ' a' w' k1 k2 k3 => hQ ρ' a' w' k1 k2 k3)))⟩
theorem region_sim {id : Nat} {ops : Array Oper} {c : Reg} (hc : RSim E n ops ops.toList c) : CSim E n rd (.region id ops false) (regC c) := fun W run hE hR fr hfr r m ds => by
  unfold regC
  by_cases hf : c run (fun r m => .nor r m ds) r m = .fail
  · rw [hf]; exact True.intro
  · obtain ⟨r', m', h1, h2⟩ := hc run (fun r m => .nor r m ds) r m hf
    rw [h2]
    refine ⟨ops_frm hR (h1 ds), fun ρ a w hV hs Q hQ => wpIn_region ?_⟩
    have := ops_wp (Q := Q) fr hE hR hV (k := 0) (by simp) (h1 ds) hs fun ρ' a' w' k1 k2 k3 => hQ ρ' a' w' k1 k2 k3
    rw [List.range_eq_range']
    simpa using this
theorem drawn_tri {W : Base} {run : Runs} (horc : ∀ i, E.orc i = none) (hE : EnvOk E W) (hR : RunOk E W run) {id : Nat} {ops : Array Oper} {st : St} {m1 : Mem} {st1 : St} (fr : Option Nat) (hm1 : aside E.P ops.toList st.m = some m1)
    (h1 : drawP E run ops st.m.hn (planX ops) [] ⟨st.tm, m1, st.ds⟩ = some st1) : TriP E W (wpC E fr (.region id ops true)) st .normal st1 := by
  have hd : drawnX E run ops st = some st1 := by
    unfold drawnX
    simp only [hm1, h1]
  obtain ⟨k1, k2⟩ := drawn_ok (id := id) hE horc hR hd
  exact ⟨k1, fun ρ a w hV hs Q hQ => k2 fr ρ a w hV hs Q hQ⟩
theorem slowDC_sim (hn : n ≤ 128) (horc : ∀ i, E.orc i = none) {id : Nat} {ops : Array Oper} : CSim E n rd (.region id ops true) (slowDC E n ops) := fun W run hE hR fr hfr r m ds => by
  unfold slowDC
  rw [drawnF_eq]
  rcases optK_cases (drawnX E run ops ⟨tmOf n r, m, ds⟩) (fun st => St.rec (motive := fun _ => Rz) (fun tm m ds => Mem.rec (motive := fun _ => Rz) (fun hp hn wr => nowN hn fun hn => nowN wr fun wr => Bool.rec (motive := fun _ => Rz) .fail (.nor (ofTr tm) ⟨hp, hn, wr⟩ ds) (shapeT 8 n tm)) m) st) Rz.fail with ⟨st, h1, h2⟩ | ⟨_, h2⟩
  · rw [h2]
    obtain ⟨tm, m', ds'⟩ := st
    obtain ⟨hp, hn', wr⟩ := m'
    dsimp only
    rw [nowN_eq, nowN_eq]
    cases hs : shapeT 8 n tm with
    | false => exact True.intro
    | true =>
      obtain ⟨k1, k2⟩ := drawn_ok (id := id) hE horc hR h1
      have e := tm_ofTr hn hs
      show TriP E W (wpC E fr (.region id ops true)) ⟨tmOf n r, m, ds⟩ .normal ⟨tmOf n (ofTr tm), ⟨hp, hn', wr⟩, ds'⟩
      rw [← e]
      exact ⟨k1, fun ρ a w hV hs Q hQ => k2 fr ρ a w hV hs Q hQ⟩
  · rw [h2]; exact True.intro
theorem regDC_sim (horc : ∀ i, E.orc i = none) {id : Nat} {ops : Array Oper} {c : DReg} (ha : ops.toList.any isAlloc = false) (hc : DSim E n ops (planX ops) c) : CSim E n rd (.region id ops true) (regDC c) := fun W run hE hR fr hfr r m ds => by
  unfold regDC
  by_cases hf : c run m.hn (fun r m => .nor r m ds) [] r m = .fail
  · rw [hf]; exact True.intro
  · obtain ⟨r', m', h1, h2⟩ := hc run m.hn (fun r m => .nor r m ds) [] r m hf
    rw [h2]
    exact drawn_tri horc hE hR fr (st := ⟨tmOf n r, m, ds⟩) (aside_none m ha) (h1 ds)
theorem regAC_sim (horc : ∀ i, E.orc i = none) {id : Nat} {ops : Array Oper} {c : DReg} (hc : DSim E n ops (planX ops) c) : CSim E n rd (.region id ops true) (regAC E ops c) := fun W run hE hR fr hfr r m ds => by
  unfold regAC
  rcases optK_cases (aside E.P ops.toList m) (fun m1 => c run m.hn (fun r m => .nor r m ds) [] r m1) Rz.fail with ⟨m1, h1, h2⟩ | ⟨_, h2⟩
  · rw [h2]
    by_cases hf : c run m.hn (fun r m => .nor r m ds) [] r m1 = .fail
    · rw [hf]; exact True.intro
    · obtain ⟨r', m', h3, h4⟩ := hc run m.hn (fun r m => .nor r m ds) [] r m1 hf
      rw [h4]
      exact drawn_tri horc hE hR fr (st := ⟨tmOf n r, m, ds⟩) h1 (h3 ds)
  · rw [h2]; exact True.intro
variable {rows : Tab} {isExt : FuncId → Bool} {β : Type}
theorem range_tri {W : Base} {run : Runs} (horc : ∀ i, E.orc i = none) (hE : EnvOk E W) (hR : RunOk E W run) {g : Operand} {ps : Array Tmp} {assign body : Code} {st : St} {f : FuncId} {fs : List (Nat × Nat)} {caps : List Nat} {v : V} {m3 : Mem} {s : LoopState} {pend : Option Ex} {tm' : Tr V} {ps' : List Tmp} {as' bo' : Code}
    (hg : st.evc g = some (.fn f fs caps)) (hcall : run true f (fstPtrs fs ++ (.one (.yl (st.m.push .dfr).hn) :: capPtrs caps)) ((st.m.push .dfr).push (.loop .ready none st.tm ps.toList assign body)) = some (v, m3))
    (hl : m3.hp.get (st.m.push .dfr).hn = some (.loop s pend tm' ps' as' bo')) (hs : s ≠ .busy) :
    TriP E W (wpC E none (.rangeFunc g ps assign body)) st (pendX pend) ⟨st.tm, m3.upd (st.m.push .dfr).hn (.loop .exhausted pend tm' ps' as' bo'), st.m.hn :: st.ds⟩ := by
  have h : codeY E run none 1 (.rangeFunc g ps assign body) st = some (pendX pend, ⟨st.tm, m3.upd (st.m.push .dfr).hn (.loop .exhausted pend tm' ps' as' bo'), st.m.hn :: st.ds⟩) := by
    unfold codeY
    simp only [hg, hcall, hl]
  obtain ⟨h1, h2⟩ := codeY_ok hE horc hR 1 none _ _ _ _ h
  exact ⟨h1, fun ρ a w hV hs Q hQ => h2 none ρ a w True.intro hV hs Q hQ⟩
theorem rangeC_sim (horc : ∀ i, E.orc i = none) {g : Operand} {ps : Array Tmp} {assign body : Code} {gf : Get} (hgf : IsG n g gf) : CSim E n false (.rangeFunc g ps assign body) (rangeC n gf ps.toList assign body) := fun W run hE hR fr hfr r m ds => by
  cases fr with
  | some _ => cases hfr
  | none =>
  unfold rangeC
  have hfn : (∃ f fs caps, gf r = .s (.one (.fn f fs caps))) ∨ ∀ (k : FuncId → List (Nat × Nat) → List Nat → Rz), vC (gf r) (fun c => cFn c k .fail) .fail = .fail := by
    cases gf r with
    | tup l => exact .inr fun k => rfl
    | s x => cases x with
      | agg l => exact .inr fun k => rfl
      | one c => cases c with
        | fn f fs caps => exact .inl ⟨f, fs, caps, rfl⟩
        | _ => exact .inr fun k => rfl
  rcases hfn with ⟨f, fs, caps, h1⟩ | h1
  · have hg : St.evc ⟨tmOf n r, m, ds⟩ g = some (.fn f fs caps) := evc_of ((hgf r m ds).trans (by rw [h1]))
    rw [h1]
    show OutP E W n _ r m ds (nowN m.hn fun l0 => pushK m .dfr fun m1 => pushK m1 (.loop .ready none (tmOf n r) ps.toList assign body) fun m2 =>
      optK (run true f (fstPtrs fs ++ (.one (.yl (Nat.succ l0)) :: capPtrs caps)) m2) (fun p => Prod.rec (motive := fun _ => Rz) (fun _ m3 => optK (getR m3.hp (Nat.succ l0)) (fun bl => endL bl (Nat.succ l0) l0 r m3 ds) .fail) p) .fail)
    rw [nowN_eq, pushK_eq, pushK_eq]
    rcases optK_cases (run true f (fstPtrs fs ++ (.one (.yl (Nat.succ m.hn)) :: capPtrs caps)) ((m.push .dfr).push (.loop .ready none (tmOf n r) ps.toList assign body)))
      (fun p => Prod.rec (motive := fun _ => Rz) (fun _ m3 => optK (getR m3.hp (Nat.succ m.hn)) (fun bl => endL bl (Nat.succ m.hn) m.hn r m3 ds) .fail) p) Rz.fail with ⟨⟨v, m3⟩, h2, h3⟩ | ⟨_, h3⟩
    · rw [h3]
      show OutP E W n _ r m ds (optK (getR m3.hp (Nat.succ m.hn)) (fun bl => endL bl (Nat.succ m.hn) m.hn r m3 ds) .fail)
      rw [getR_eq]
      rcases optK_cases (m3.hp.get (Nat.succ m.hn)) (fun bl => endL bl (Nat.succ m.hn) m.hn r m3 ds) Rz.fail with ⟨bl, h4, h5⟩ | ⟨_, h5⟩
      · rw [h5]
        unfold endL
        split
        · rename_i s pend tm' ps' as' bo'
          have key := fun hs => range_tri (st := ⟨tmOf n r, m, ds⟩) (s := s) horc hE hR hg h2 h4 hs
          split
          · exact True.intro
          · rename_i hs
            have k := key (fun hc => hs hc)
            rw [updK_eq]
            cases pend with
            | none => exact k
            | some e => cases e <;> exact k
        · exact True.intro
      · rw [h5]; exact True.intro
    · rw [h3]; exact True.intro
  · rw [h1]; exact True.intro
theorem compC_yields (hT : TabOk E rows isExt) (hn : n ≤ 128) (L : Nat) : ∀ (rd : Bool) (c : Code) (k : CC → β) (dd : β), Yields (compC E n rows isExt L rd c k dd) k dd (CSim E n rd c) := by
  intro rd c
  induction c with
  | skip => intro k dd; unfold compC; exact .k skip_sim
  | label l => intro k dd; unfold compC; exact .k label_sim
  | ret => intro k dd; unfold compC; exact .k ret_sim
  | exit id => intro k dd; unfold compC; exact .k exit_sim
  | seq a b iha ihb =>
    intro k dd; unfold compC
    exact (iha _ _).into (fun ca ha => (ihb _ _).into (fun cb hb => .k (seq_sim ha hb)) .d) .d
  | cond x a b iha ihb =>
    intro k dd; unfold compC
    exact (mkX_yields hn x _ _).into (fun g hg => (iha _ _).into (fun ca ha => (ihb _ _).into (fun cb hb => .k (cond_sim hg ha hb)) .d) .d) .d
  | block id b ihb =>
    intro k dd; unfold compC
    exact (ihb _ _).into (fun cb hb => .k (block_sim hb)) .d
  | loop b ihb =>
    intro k dd; unfold compC
    cases isMapLoop b with
    | true => exact .d
    | false => exact (ihb _ _).into (fun cb hb => .k (loop_sim hb)) .d
  | scope b ihb =>
    intro k dd; unfold compC
    cases rd with
    | true => exact .d
    | false => exact (ihb _ _).into (fun cb hb => .k (scope_sim hb)) .d
  | region id ops dr =>
    intro k dd
    cases dr with
    | false => unfold compC; exact (compR_yields hT hn ops _ _ _).into (fun c hc => .k (region_sim hc)) .d
    | true =>
      unfold compC
      cases planOk (planX ops) with
      | false => exact .k (slowDC_sim hn hT.orc)
      | true =>
        simp only [cond_true]
        refine (compPl_yields hT hn ops _ _ _).into (fun c hc => ?_) (.k (slowDC_sim hn hT.orc))
        cases ha : ops.toList.any isAlloc with
        | true => exact .k (regAC_sim hT.orc hc)
        | false => exact .k (regDC_sim hT.orc ha hc)
  | rangeFunc g ps assign body =>
    intro k dd; unfold compC
    cases rd with
    | true => exact .d
    | false => exact (mkX_yields hn g _ _).into (fun gf hgf => .k (rangeC_sim hT.orc hgf)) .d
  | _ => intro k dd; unfold compC; exact .d
end
end Go.Ry
namespace Go.Ry
open Go Go.RowKit

/-! ### Entering -/
theorem sets_spec {γ : Type} : ∀ (l : List Nat) (acc : List (V → R64 → (R64 → γ) → γ)) (is : List Nat), (∀ i ∈ l, i < 128) → All2 (fun (i : Nat) (s : V → R64 → (R64 → γ) → γ) => ∀ v r k, s v r k = k (r.set i v)) is acc →
    All2 (fun (i : Nat) (s : V → R64 → (R64 → γ) → γ) => ∀ v r k, s v r k = k (r.set i v)) (l ++ is) (l.foldr (fun i l => mkS γ i fun s => s :: l) acc)
  | [], acc, is, _, h => h
  | i :: l, acc, is, hl, h => by
    simp only [List.foldr_cons, List.cons_append]
    obtain ⟨s, h1, h2⟩ := mkS_spec (γ := γ) (i := i) (hl i (by simp)) fun s => s :: l.foldr (fun i l => mkS γ i fun s => s :: l) acc
    rw [h2]
    exact .cons h1 (sets_spec l acc is (fun j hj => hl j (by simp [hj])) h)
theorem sets64_spec : All2 (fun (i : Nat) (s : V → R64 → (R64 → Ans) → Ans) => ∀ v r k, s v r k = k (r.set i v)) (List.range 128) sets64 := by
  have := sets_spec (γ := Ans) (List.range 128) [] [] (fun i hi => List.mem_range.1 hi) .nil
  rwa [List.append_nil] at this
def setArgs : List V1 → Nat → R64 → R64
  | [], _, r => r
  | x :: l, i, r => setArgs l (i + 1) (r.set i (.s x))
theorem entC_spec : ∀ (args : List V1) (i len : Nat) (ss : List (V → R64 → (R64 → Ans) → Ans)) (r : R64) (k : R64 → Ans), args.length ≤ len →
    All2 (fun (i : Nat) (s : V → R64 → (R64 → Ans) → Ans) => ∀ v r k, s v r k = k (r.set i v)) (List.range' i len) ss → entC args ss r k = k (setArgs args i r)
  | [], i, len, ss, r, k, _, _ => rfl
  | x :: args, i, len, ss, r, k, hl, h => by
    match len, hl with
    | len + 1, hl =>
      rw [List.range'_succ] at h
      cases h with
      | cons h1 h2 =>
        rename_i s ss
        show s (.s x) r (fun r' => entC args ss r' k) = _
        rw [h1]
        exact entC_spec args (i + 1) len ss _ k (by simp at hl; omega) h2
theorem setArgs_tm {n : Nat} : ∀ (args : List V1) (i : Nat) (r : R64), i + args.length ≤ 128 → tmOf n (setArgs args i r) = putArgs args i (tmOf n r)
  | [], i, r, _ => rfl
  | x :: args, i, r, h => by
    simp only [setArgs, putArgs]
    rw [setArgs_tm args (i + 1) _ (by simp at h; omega), tmOf_set (by simp at h; omega)]
theorem mk_ofF {α : Type} (x : α) : ∀ k k' s, s < 2 ^ k → s < 2 ^ k' → Tr.ofF k s (fun _ => x) = Tr.mk k' s x
  | 0, k', s, h, _ => by
    have : s = 0 := by simpa using h
    subst this
    cases k' <;> rfl
  | k + 1, 0, s, _, h => by
    have : s = 0 := by simpa using h
    subst this
    rfl
  | k + 1, k' + 1, s, h, h' => by
    have e1 : 2 ^ (k + 1) = 2 * 2 ^ k := by rw [Nat.pow_succ]; omega
    have e2 : 2 ^ (k' + 1) = 2 * 2 ^ k' := by rw [Nat.pow_succ]; omega
    unfold Tr.ofF Tr.mk
    cases hs : Nat.beq s 0 with
    | true => rfl
    | false =>
      have hs0 := beq_f hs
      simp only [cond_false]
      have d1 : Nat.div s 2 = s / 2 := rfl
      have d2 : Nat.div (Nat.pred s) 2 = (s - 1) / 2 := rfl
      have d3 : Nat.pred s / 2 = (s - 1) / 2 := rfl
      rw [mk_ofF x k k' _ (by omega) (by omega), mk_ofF x k k' _ (by rw [d3]; omega) (by rw [d3]; omega)]
      rfl
theorem get_r0 : r64_0.get = fun _ => .tup [] := by
  funext i
  have h8 : ∀ j, r64_0.get8 j = r8_0 := fun j => by
    match j with
    | 0 | 1 | 2 | 3 | 4 | 5 | 6 | 7 | 8 | 9 | 10 | 11 | 12 | 13 | 14 | 15 => rfl
    | j + 16 => rfl
  have ha : ∀ j, r8_0.get j = .tup [] := fun j => by
    match j with
    | 0 | 1 | 2 | 3 | 4 | 5 | 6 | 7 => rfl
    | j + 8 => rfl
  unfold R64.get
  rw [h8, ha]
  cases Nat.blt i 128 <;> rfl
theorem enter_fast {fn : Func} {args : List V1} (hn : fn.ntmps ≤ 128) (hl : args.length ≤ fn.ntmps) : enterX fn args = some (tmOf fn.ntmps (setArgs args 0 r64_0)) := by
  unfold enterX
  have h1 : Nat.ble args.length fn.ntmps = true := by rw [Nat.ble_eq]; exact hl
  have h2 : Nat.ble fn.ntmps 1000000 = true := by rw [Nat.ble_eq]; omega
  rw [h1, h2, setArgs_tm args 0 r64_0 (by omega)]
  simp only [Bool.and_self, cond_true]
  congr 2
  unfold tmOf
  rw [get_r0]
  exact (mk_ofF _ 8 20 _ (by show fn.ntmps < 256; omega) (by show fn.ntmps < 1048576; omega)).symm

/-! ### Results -/
def FSim (P : Program) (n : Nat) (rs : List ResultVar) (fin : R64 → Mem → Ans) : Prop := ∀ r m v m', fin r m = some (v, m') → m' = m ∧ ∃ l, resX P ⟨tmOf n r, m, []⟩ rs = some l ∧ v = packX l
theorem argsA_spec {n : Nat} {r : R64} {m : Mem} : ∀ {xs : List Operand} {gs : List Get}, IsGs n xs gs → ∀ k : List V1 → Ans, argsA gs r k = none ∨ ∃ l, argsX ⟨tmOf n r, m, []⟩ xs = some l ∧ argsA gs r k = k l
  | [], _, .nil, k => .inr ⟨[], rfl, rfl⟩
  | x :: xs, _, .cons (b := g) (m := gs) hg hgs, k => by
    show v1 (g r) (fun y => argsA gs r fun l => k (y :: l)) none = none ∨ ∃ l, _ ∧ v1 (g r) (fun y => argsA gs r fun l => k (y :: l)) none = k l
    rcases v1_cases (g r) (fun y => argsA gs r fun l => k (y :: l)) (none : Ans) with ⟨y, h1, h2⟩ | h2
    · rw [h2]
      rcases argsA_spec (r := r) (m := m) hgs fun l => k (y :: l) with h3 | ⟨l, h3, h4⟩
      · exact .inl h3
      · refine .inr ⟨y :: l, ?_, h4⟩
        have ex : St.ev1 ⟨tmOf n r, m, []⟩ x = some y := ev1_of ((hg r m []).trans (by rw [h1]))
        simp only [argsX, ex, h3]
    · exact .inl h2
theorem resTmps_spec {P : Program} {st : St} : ∀ {rs : List ResultVar} {xs : List Operand}, resTmps rs = some xs → resX P st rs = argsX st xs
  | [], xs, h => by simp only [resTmps, Option.some.injEq] at h; subst h; rfl
  | .tmp t :: rs, xs, h => by
    simp only [resTmps] at h
    split at h
    · rename_i l hl
      simp only [Option.some.injEq] at h
      subst h
      simp only [resX, argsX, resTmps_spec hl]
    · cases h
  | .cell a t :: rs, xs, h => by cases h
theorem finS_sim {P : Program} {n : Nat} {rs : List ResultVar} : FSim P n rs (finS P n rs) := fun r m v m' h => by
  unfold finS at h
  rcases optK_cases (resX P ⟨tmOf n r, m, []⟩ rs) (fun l => (some (packX l, m) : Ans)) none with ⟨l, h1, h2⟩ | ⟨_, h2⟩
  · rw [h2] at h
    simp only [Option.some.injEq, Prod.mk.injEq] at h
    exact ⟨h.2.symm, l, h1, h.1.symm⟩
  · rw [h2] at h; cases h
theorem compFin_spec {β : Type} {P : Program} {n : Nat} (hn : n ≤ 128) (rs : List ResultVar) (k : (R64 → Mem → Ans) → β) : ∃ fin, FSim P n rs fin ∧ compFin P n rs k = k fin := by
  unfold compFin
  split
  · rename_i xs hx
    rcases mkXs_yields hn xs (fun gs => k (finT gs)) (k (finS P n rs)) with h | ⟨gs, hg, h⟩
    · exact ⟨_, finS_sim, h⟩
    · refine ⟨finT gs, fun r m v m' h => ?_, h⟩
      unfold finT at h
      rcases argsA_spec (r := r) (m := m) hg fun l => some (packX l, m) with h1 | ⟨l, h1, h2⟩
      · rw [h1] at h; cases h
      · rw [h2] at h
        simp only [Option.some.injEq, Prod.mk.injEq] at h
        exact ⟨h.2.symm, l, (resTmps_spec hx).trans h1, h.1.symm⟩
  · exact ⟨_, finS_sim, rfl⟩

/-! ### A function -/
/-- What is known of a call: what a run of the runner says of it. -/
def CallOk (E : Env) (W : Base) (f : FuncId) (args : List V1) (m : Mem) (v : V) (m' : Mem) : Prop :=
  Frm m m' ∧ ∀ (ρ : Loc') (xs : List Value) (w : World), ρ.val = E.val → All2 (D1 ρ) args xs → MemRel W ρ m w →
    (callFunc f xs.toArray).run E.P w = .ok (.enter f xs.toArray) w ∧
    Calls E.P f xs.toArray w fun e w' => ∃ x ρ', e = .returned x ∧ Ext ρ ρ' ∧ Keep m.hn m m' ρ ρ' ∧ DV ρ' v x ∧ MemRel W ρ' m' w'
theorem callOk_of_tri {E : Env} {W : Base} (hE : EnvOk E W) {f : FuncId} {fn : Func} {body : Code} {args : List V1} {tm tm' : Tr V} {m m1 m' : Mem} {ds' : List Nat} {ex : Ex} {l : List V1} (hf : E.P.funcs[f]? = some fn) (hb : fn.body = some body)
    (ht : enterX fn args = some tm) (hex : ex = .normal ∨ ex = .ret) (hc : TriP E W (wpC E none body) ⟨tm, m, []⟩ ex ⟨tm', m1, ds'⟩) (hsh : shutX ds' m1 = some m') (hl : resX E.P ⟨tm', m', []⟩ fn.results.toList = some l) : CallOk E W f args m (packX l) m' := by
  classical
  have hC : CodeOk E W none (fun c st => if c = body ∧ st = ⟨tm, m, []⟩ then some (ex, ⟨tm', m1, ds'⟩) else none) := by
    intro c st e st' h
    dsimp only at h
    split at h
    · rename_i hcs
      simp only [Option.some.injEq, Prod.mk.injEq] at h
      obtain ⟨rfl, rfl⟩ := h
      obtain ⟨rfl, rfl⟩ := hcs
      refine ⟨hc.1, fun r ρ a w hr hV hs Q hQ => ?_⟩
      cases r with
      | some _ => cases hr
      | none => exact hc.2 ρ a w hV hs Q hQ
    · cases h
  have hI : ∀ b, CodeOk E W (some b) ((fun _ _ _ => none : Nat → Code → St → Option (Ex × St)) b) := fun b c st e st' h => by cases h
  have hR := run_ok hE hC hI
  have hrun : runX E.P (fun c st => if c = body ∧ st = ⟨tm, m, []⟩ then some (ex, ⟨tm', m1, ds'⟩) else none) (fun _ _ _ => none) true f args m = some (packX l, m') := by
    unfold runX
    simp only [cond_true, hf, hb, ht, and_self, if_true]
    unfold endX
    rcases hex with rfl | rfl <;> simp only [hsh, hl, Option.map_some]
  exact ⟨hR.frm _ _ _ _ _ _ hrun, fun ρ xs w => hR.calls _ _ _ _ _ hrun ρ xs w⟩
theorem shutC_spec {fin : R64 → Mem → Ans} {r : R64} {m : Mem} {ds : List Nat} {v : V} {m' : Mem} (h : shutC fin r m ds = some (v, m')) : ∃ m1, shutX ds m = some m1 ∧ fin r m1 = some (v, m') := by
  cases ds with
  | nil => exact ⟨m, rfl, h⟩
  | cons b l =>
    have h' : optK (shutX (b :: l) m) (fun m => fin r m) none = some (v, m') := h
    rcases optK_cases (shutX (b :: l) m) (fun m => fin r m) (none : Ans) with ⟨m1, h1, h2⟩ | ⟨_, h2⟩
    · exact ⟨m1, h1, h2.symm.trans h'⟩
    · rw [h2] at h'; cases h'
theorem fast_ok {E : Env} {W : Base} {run : Runs} (hE : EnvOk E W) (hR : RunOk E W run) {f : FuncId} {fn : Func} {body : Code} {c : CC} {fin : R64 → Mem → Ans} (hf : E.P.funcs[f]? = some fn) (hb : fn.body = some body) (hn : fn.ntmps ≤ 128)
    (hc : CSim E fn.ntmps false body c) (hfin : FSim E.P fn.ntmps fn.results.toList fin) {args : List V1} {m : Mem} {v : V} {m' : Mem} (h : fastF run fn.ntmps c fin args m = some (v, m')) : CallOk E W f args m v m' := by
  unfold fastF at h
  cases hl : Nat.ble args.length fn.ntmps with
  | false => rw [hl] at h; cases h
  | true =>
    have hle := ble_t hl
    rw [hl] at h
    have h' : entC args sets64 r64_0 (fun r => finC fin (c run r m [])) = some (v, m') := h
    rw [entC_spec args 0 128 sets64 r64_0 _ (by omega) (by have := sets64_spec; rwa [List.range_eq_range'] at this)] at h'
    have ho := hc W run hE hR none rfl (setArgs args 0 r64_0) m []
    revert ho h'
    generalize c run (setArgs args 0 r64_0) m [] = y
    intro h' ho
    have ht := enter_fast hn hle
    cases y with
    | fail => cases h'
    | ext i r' m1 ds' => cases h'
    | nor r' m1 ds' =>
      obtain ⟨m2, hs, h2⟩ := shutC_spec (show shutC fin r' m1 ds' = some (v, m') from h')
      obtain ⟨rfl, l, h1, rfl⟩ := hfin r' m2 v m' h2
      exact callOk_of_tri hE hf hb ht (.inl rfl) ho hs h1
    | ret r' m1 ds' =>
      obtain ⟨m2, hs, h2⟩ := shutC_spec (show shutC fin r' m1 ds' = some (v, m') from h')
      obtain ⟨rfl, l, h1, rfl⟩ := hfin r' m2 v m' h2
      exact callOk_of_tri hE hf hb ht (.inr rfl) ho hs h1

/-! ### Bare values -/
theorem bareC_eq (c : C) : bareC' c = bareC c := by cases c <;> rfl
theorem bareCs_eq : ∀ l : List C, bareCs l = l.all bareC
  | [] => rfl
  | c :: l => by
    show sel (bareC' c) (bareCs l) false = _
    rw [bareC_eq, bareCs_eq l]
    simp only [List.all_cons]
    cases bareC c <;> rfl
theorem bareF1_eq (x : V1) : bareF1 x = bare1 x := by
  cases x with
  | one c => exact bareC_eq c
  | agg l => exact bareCs_eq l
theorem bareL_eq : ∀ l : List V1, bareL l = l.all bare1
  | [] => rfl
  | c :: l => by
    show sel (bareF1 c) (bareL l) false = _
    rw [bareF1_eq, bareL_eq l]
    simp only [List.all_cons]
    cases bare1 c <;> rfl
theorem bareF_eq (v : V) : bareF v = bareV v := by
  cases v with
  | s x => exact bareF1_eq x
  | tup l => exact bareL_eq l

/-! ### Rounds -/
def zipSet : List Tmp → List V1 → R64 → R64
  | p :: ps, x :: xs, r => zipSet ps xs (r.set p (.s x))
  | _, _, r => r
theorem entZ_spec : ∀ (args : List V1) (ps : List Tmp) (ss : List (V → R64 → (R64 → Ans) → Ans)) (r : R64) (k : R64 → Ans), args.length = ps.length →
    All2 (fun (i : Nat) (s : V → R64 → (R64 → Ans) → Ans) => ∀ v r k, s v r k = k (r.set i v)) ps ss → entC args ss r k = k (zipSet ps args r)
  | [], ps, ss, r, k, hl, h => by
    cases ps with
    | nil => rfl
    | cons p ps => cases hl
  | x :: args, ps, ss, r, k, hl, h => by
    cases h with
    | nil => cases hl
    | cons h1 h2 =>
      rename_i p s ps ss
      show s (.s x) r (fun r' => entC args ss r' k) = _
      rw [h1]
      exact entZ_spec args ps ss _ k (by simpa using hl) h2
theorem zipSet_tm {n : Nat} : ∀ (ps : List Tmp) (args : List V1) (r : R64), (∀ p ∈ ps, p < 128) → tmOf n (zipSet ps args r) = roundX.putZip ps args (tmOf n r)
  | [], args, r, _ => by cases args <;> rfl
  | p :: ps, [], r, _ => rfl
  | p :: ps, x :: args, r, h => by
    simp only [zipSet, roundX.putZip]
    rw [zipSet_tm ps args _ (fun q hq => h q (by simp [hq])), tmOf_set (h p (by simp))]
theorem mkSs_yields {β : Type} {n : Nat} (hn : n ≤ 128) : ∀ (ps : List Tmp) (k : List (V → R64 → (R64 → Ans) → Ans) → β) (d : β),
    Yields (mkSs n ps k d) k d fun ss => (∀ p ∈ ps, p < 128) ∧ All2 (fun (i : Nat) (s : V → R64 → (R64 → Ans) → Ans) => ∀ v r k, s v r k = k (r.set i v)) ps ss
  | [], k, d => .inr ⟨[], ⟨fun p hp => (by cases hp), .nil⟩, rfl⟩
  | t :: ps, k, d => by
    unfold mkSs
    cases hb : Nat.blt t n with
    | false => exact .d
    | true =>
      have ht := Nat.lt_of_lt_of_le (blt_t hb) hn
      simp only [cond_true]
      obtain ⟨s, hs, h⟩ := mkS_spec (γ := Ans) ht (fun s => mkSs n ps (fun l => k (s :: l)) d)
      rw [h]
      refine (mkSs_yields hn ps _ _).into (fun ss hss => ?_) .d
      refine .inr ⟨s :: ss, ⟨fun p hp => ?_, .cons hs hss.2⟩, rfl⟩
      rcases List.mem_cons.1 hp with rfl | hp
      · exact ht
      · exact hss.1 p hp
theorem compRd_spec {E : Env} {rows : Tab} {isExt : FuncId → Bool} (hT : TabOk E rows isExt) (L n : Nat) (ps : List Tmp) (assign body : Code) :
    compRd E rows isExt L n ps assign body = .no ∨ ∃ ss ca cb, n ≤ 128 ∧ (∀ p ∈ ps, p < 128) ∧ All2 (fun (i : Nat) (s : V → R64 → (R64 → Ans) → Ans) => ∀ v r k, s v r k = k (r.set i v)) ps ss ∧
      CSim E n true assign ca ∧ CSim E n true body cb ∧ compRd E rows isExt L n ps assign body = .mk ss ca cb := by
  unfold compRd
  cases hb : Nat.ble n 128 with
  | false => exact .inl rfl
  | true =>
    have hn := ble_t hb
    simp only [cond_true]
    rcases mkSs_yields hn ps (fun ss => compC E n rows isExt L true assign (fun ca => compC E n rows isExt L true body (fun cb => CBox.mk ss ca cb) .no) .no) .no with h | ⟨ss, hss, h⟩
    · exact .inl h
    · rw [h]
      dsimp only
      rcases compC_yields hT hn L true assign (fun ca => compC E n rows isExt L true body (fun cb => CBox.mk ss ca cb) .no) .no with h | ⟨ca, hca, h⟩
      · exact .inl h
      · rw [h]
        dsimp only
        rcases compC_yields hT hn L true body (fun cb => CBox.mk ss ca cb) .no with h | ⟨cb, hcb, h⟩
        · exact .inl h
        · exact .inr ⟨ss, ca, cb, hn, hss.1, hss.2, hca, hcb, h⟩
theorem round_of_tri {E : Env} {W : Base} {b : Nat} {args : List V1} {m : Mem} {tm : Tr V} {ps : List Tmp} {as bo : Code} {st1 : St} {tm1 : Tr V} {ps1 : List Tmp} {as1 bo1 : Code} {ex : Ex} {st2 : St} {s2 : LoopState} {p2 : Option Ex} {tm2 : Tr V} {ps2 : List Tmp} {as2 bo2 : Code}
    (hl : m.hp.get b = some (.loop .ready none tm ps as bo)) (hlen : Nat.beq args.length ps.length = true)
    (h1 : ∀ fr : Option Nat, fr.isSome = true → TriP E W (wpC E fr as) ⟨roundX.putZip ps args tm, m, []⟩ .normal st1) (hl1 : st1.m.hp.get b = some (.loop .ready none tm1 ps1 as1 bo1))
    (h2 : ∀ fr : Option Nat, fr.isSome = true → TriP E W (wpC E fr bo) ⟨st1.tm, st1.m.upd b (.loop .busy none tm1 ps1 as1 bo1), st1.ds⟩ ex st2) (hl2 : st2.m.hp.get b = some (.loop s2 p2 tm2 ps2 as2 bo2)) :
    ∃ inner, CodeOk E W (some b) inner ∧ roundX inner b args m = some (vb (jumpX ex).isNone, st2.m.upd b (.loop (stateX (jumpX ex)) (jumpX ex) tm2 ps2 as2 bo2)) := by
  classical
  have hne : ¬ ((⟨st1.tm, st1.m.upd b (.loop .busy none tm1 ps1 as1 bo1), st1.ds⟩ : St) = ⟨roundX.putZip ps args tm, m, []⟩) := fun hc => by
    have hm : st1.m.upd b (.loop .busy none tm1 ps1 as1 bo1) = m := congrArg St.m hc
    have hg : (st1.m.upd b (.loop .busy none tm1 ps1 as1 bo1)).hp.get b = some (.loop .busy none tm1 ps1 as1 bo1) := get_set_eq _ hl1
    rw [hm, hl] at hg
    cases hg
  refine ⟨fun c st => if c = as ∧ st = ⟨roundX.putZip ps args tm, m, []⟩ then some (.normal, st1) else if c = bo ∧ st = ⟨st1.tm, st1.m.upd b (.loop .busy none tm1 ps1 as1 bo1), st1.ds⟩ then some (ex, st2) else none, ?_, ?_⟩
  · intro c st e st' h
    dsimp only at h
    split at h
    · rename_i hcs
      simp only [Option.some.injEq, Prod.mk.injEq] at h
      obtain ⟨rfl, rfl⟩ := h
      obtain ⟨rfl, rfl⟩ := hcs
      exact ⟨(h1 (some 0) rfl).1, fun r ρ a w hr hV hs Q hQ => (h1 r (by obtain ⟨l, rfl, _⟩ := hr.rd; rfl)).2 ρ a w hV hs Q hQ⟩
    · split at h
      · rename_i hcs
        simp only [Option.some.injEq, Prod.mk.injEq] at h
        obtain ⟨rfl, rfl⟩ := h
        obtain ⟨rfl, rfl⟩ := hcs
        exact ⟨(h2 (some 0) rfl).1, fun r ρ a w hr hV hs Q hQ => (h2 r (by obtain ⟨l, rfl, _⟩ := hr.rd; rfl)).2 ρ a w hV hs Q hQ⟩
      · cases h
  · unfold roundX
    simp only [hl, hlen, cond_true, and_self, if_true, hl1, hne, and_false, if_false, hl2]
theorem endRd_spec {b : Nat} {ex : Ex} {m : Mem} {v : V} {m' : Mem} (h : endRd b ex m = some (v, m')) : ∃ s2 p2 tm2 ps2 as2 bo2, m.hp.get b = some (.loop s2 p2 tm2 ps2 as2 bo2) ∧ v = vb (jumpX ex).isNone ∧ m' = m.upd b (.loop (stateX (jumpX ex)) (jumpX ex) tm2 ps2 as2 bo2) := by
  unfold endRd at h
  rw [getR_eq] at h
  split at h
  · rename_i s2 p2 tm2 ps2 as2 bo2 hl
    rw [updK_eq] at h
    simp only [Option.some.injEq, Prod.mk.injEq] at h
    exact ⟨s2, p2, tm2, ps2, as2, bo2, hl, h.1.symm, h.2.symm⟩
  · cases h
theorem slowR_eq {E : Env} {run : Runs} (L b : Nat) (args : List V1) (m : Mem) : slowF E run L false b args m = roundX (codeY E run (some b) L) b args m := by
  unfold slowF
  rw [runF_eq]
  have h : codeR E run L (some b) = codeY E run (some b) L := by funext c st; exact codeR_eq E run L (some b) c st
  show roundX (codeR E run L (some b)) b args m = _
  rw [h]
theorem roundC_ok {E : Env} {rows : Tab} {isExt : FuncId → Bool} {W : Base} {run : Runs} (hE : EnvOk E W) (hT : TabOk E rows isExt) (hR : RunOk E W run) (L : Nat) {b : Nat} {args : List V1} {m : Mem} {v : V} {m' : Mem}
    (h : roundC E rows isExt L run b args m = some (v, m')) : ∃ inner, CodeOk E W (some b) inner ∧ roundX inner b args m = some (v, m') := by
  have slow : slowF E run L false b args m = some (v, m') → ∃ inner, CodeOk E W (some b) inner ∧ roundX inner b args m = some (v, m') := fun h => ⟨_, codeY_ok hE hT.orc hR L (some b), (slowR_eq L b args m).symm.trans h⟩
  unfold roundC at h
  rw [getR_eq] at h
  split at h
  · rename_i tm ps assign body hl
    rw [nowN_eq] at h
    cases hc : (Nat.beq args.length ps.length && shapeT 8 (countT tm) tm) with
    | false => rw [hc] at h; exact slow h
    | true =>
      rw [hc] at h
      simp only [cond_true] at h
      simp only [Bool.and_eq_true] at hc
      generalize countT tm = n at h hc
      rcases compRd_spec hT L n ps assign body with hb | ⟨ss, ca, cb, hn, hps, hss, hca, hcb, hb⟩
      · rw [hb] at h; exact slow h
      · rw [hb] at h
        have h' : entC args ss (ofTr tm) (fun r => Rz.rec (motive := fun _ => Ans) none (fun r m ds => bodyRd run cb b r m ds) (fun _ _ _ => none) (fun _ _ _ _ => none) (ca run r m [])) = some (v, m') := h
        rw [entZ_spec args ps ss _ _ (beq_t hc.1) hss] at h'
        have ho := fun fr hfr => hca W run hE hR fr hfr (zipSet ps args (ofTr tm)) m []
        have htm : tmOf n (zipSet ps args (ofTr tm)) = roundX.putZip ps args tm := by
          rw [zipSet_tm ps args _ hps, ← tm_ofTr hn hc.2]
        revert ho h'
        generalize ca run (zipSet ps args (ofTr tm)) m [] = y
        intro h' ho
        cases y with
        | fail => cases h'
        | ret _ _ _ => cases h'
        | ext _ _ _ _ => cases h'
        | nor r1 m1 ds1 =>
          have h2 : bodyRd run cb b r1 m1 ds1 = some (v, m') := h'
          unfold bodyRd at h2
          rw [getR_eq] at h2
          split at h2
          · rename_i tm1 ps1 as1 bo1 hl1
            rw [updK_eq] at h2
            have ho2 := fun fr hfr => hcb W run hE hR fr hfr r1 (m1.upd b (.loop .busy none tm1 ps1 as1 bo1)) ds1
            have ho1 : ∀ fr : Option Nat, fr.isSome = true → TriP E W (wpC E fr assign) ⟨roundX.putZip ps args tm, m, []⟩ .normal ⟨tmOf n r1, m1, ds1⟩ := fun fr hfr => by
              rw [← htm]; exact ho fr hfr
            revert ho2 h2
            generalize cb run r1 (m1.upd b (.loop .busy none tm1 ps1 as1 bo1)) ds1 = z
            intro h2 ho2
            cases z with
            | fail => cases h2
            | nor r2 m2 ds2 =>
              obtain ⟨s2, p2, tm2, ps2, as2, bo2, k1, rfl, rfl⟩ := endRd_spec (show endRd b .normal m2 = some (v, m') from h2)
              exact round_of_tri (st1 := ⟨tmOf n r1, m1, ds1⟩) (st2 := ⟨tmOf n r2, m2, ds2⟩) hl hc.1 ho1 hl1 (fun fr hfr => ho2 fr hfr) k1
            | ret r2 m2 ds2 =>
              obtain ⟨s2, p2, tm2, ps2, as2, bo2, k1, rfl, rfl⟩ := endRd_spec (show endRd b .ret m2 = some (v, m') from h2)
              exact round_of_tri (st1 := ⟨tmOf n r1, m1, ds1⟩) (st2 := ⟨tmOf n r2, m2, ds2⟩) hl hc.1 ho1 hl1 (fun fr hfr => ho2 fr hfr) k1
            | ext i r2 m2 ds2 =>
              obtain ⟨s2, p2, tm2, ps2, as2, bo2, k1, rfl, rfl⟩ := endRd_spec (show endRd b (.exit i) m2 = some (v, m') from h2)
              exact round_of_tri (st1 := ⟨tmOf n r1, m1, ds1⟩) (st2 := ⟨tmOf n r2, m2, ds2⟩) hl hc.1 ho1 hl1 (fun fr hfr => ho2 fr hfr) k1
          · cases h2
  · cases h
theorem round_run {E : Env} {W : Base} (hE : EnvOk E W) {inner : Code → St → Option (Ex × St)} {b : Nat} (hI : CodeOk E W (some b) inner) {args : List V1} {m : Mem} {v : V} {m' : Mem} (h : roundX inner b args m = some (v, m')) :
    RunOk E W (runX E.P (fun _ _ => none) fun b' => if b' = b then inner else fun _ _ => none) ∧ runX E.P (fun _ _ => none) (fun b' => if b' = b then inner else fun _ _ => none) false b args m = some (v, m') := by
  refine ⟨run_ok hE (fun c st e st' h => by cases h) fun b' => ?_, ?_⟩
  · by_cases hb : b' = b
    · rw [if_pos hb, hb]; exact hI
    · rw [if_neg hb]; exact fun c st e st' h => by cases h
  · show roundX (if b = b then inner else fun _ _ => none) b args m = _
    rw [if_pos rfl]; exact h

/-! ### The run -/
theorem call_known {E : Env} (hV : ∀ w : World, MemRel (.of w) (noLoc E.val) mem0 w) {f : FuncId} {l : List V1} {v : V} {m' : Mem} (hl : l.all bare1 = true) (hv : bareV v = true) (h : ∀ W, CallOk E W f l mem0 v m') : Known E.P f l v := by
  intro ρ xs w hx
  have hx' : All2 (D1 (noLoc E.val)) l xs := hx.any (fun _ _ => bare1_any) hl
  obtain ⟨h1, h2⟩ := (h (.of w)).2 (noLoc E.val) xs w rfl hx' (hV w)
  refine ⟨h1, h2.mono fun e w' he => ?_⟩
  obtain ⟨x, ρ', rfl, _, _, h5, h6⟩ := he
  exact ⟨x, rfl, bareV_any hv h5, BelowB.below h6.below⟩
theorem compF_spec {E : Env} {rows : Tab} {isExt : FuncId → Bool} (hT : TabOk E rows isExt) (L : Nat) (f : FuncId) :
    compF E rows isExt L f = .no ∨ ∃ fn body c fin iso, E.P.funcs[f]? = some fn ∧ fn.body = some body ∧ fn.ntmps ≤ 128 ∧ CSim E fn.ntmps false body c ∧ FSim E.P fn.ntmps fn.results.toList fin ∧ compF E rows isExt L f = .yes fn.ntmps iso c fin := by
  unfold compF
  split
  · rename_i fn hf
    split
    · rename_i body hb
      cases hn : Nat.ble fn.ntmps 128 with
      | false => exact .inl rfl
      | true =>
        have hn' := ble_t hn
        simp only [cond_true]
        rcases compC_yields hT hn' L false body (fun c => compFin E.P fn.ntmps fn.results.toList fun fin => bif fn.resultTypes.toList.all (plainType E.P) then Box.yes fn.ntmps true c fin else .yes fn.ntmps false c fin) .no with h | ⟨c, hc, h⟩
        · exact .inl h
        · obtain ⟨fin, h1, h2⟩ := compFin_spec (P := E.P) hn' fn.results.toList fun fin => bif fn.resultTypes.toList.all (plainType E.P) then Box.yes fn.ntmps true c fin else .yes fn.ntmps false c fin
          refine .inr ⟨fn, body, c, fin, fn.resultTypes.toList.all (plainType E.P), hf, hb, hn', hc, h1, ?_⟩
          rw [h]
          dsimp only
          rw [h2]
          cases fn.resultTypes.toList.all (plainType E.P) <;> rfl
    · exact .inl rfl
  · exact .inl rfl
section
variable {E : Env} {rows : Tab} {isExt : FuncId → Bool}
theorem slow_runOk {W : Base} {run : Runs} (horc : ∀ i, E.orc i = none) (hE : EnvOk E W) (hR : RunOk E W run) (L : Nat) : RunOk E W (slowF E run L) := by
  have e : slowF E run L = runX E.P (codeY E run none L) (fun b => codeY E run (some b) L) := by
    funext isF f args m
    unfold slowF
    rw [runF_eq]
    have h : ∀ rd, codeR E run L rd = codeY E run rd L := fun rd => by funext c st; exact codeR_eq E run L rd c st
    simp only [h]
  rw [e]
  exact run_ok hE (codeY_ok hE horc hR L none) (fun b => codeY_ok hE horc hR L (some b))
/-! ### Calls that are known in a memory of their own -/
section
variable {γ : Type}
theorem fcNs_eq : ∀ (l : List Nat) (k : List Nat → γ), fcNs l k = k l
  | [], k => rfl
  | a :: l, k => by
    show nowN a (fun a => fcNs l fun l => k (a :: l)) = _
    rw [nowN_eq, fcNs_eq l]
theorem fcPs_eq : ∀ (l : List (Nat × Nat)) (k : List (Nat × Nat) → γ), fcPs l k = k l
  | [], k => rfl
  | (a, b) :: l, k => by
    show nowN a (fun a => nowN b fun b => fcPs l fun l => k ((a, b) :: l)) = _
    rw [nowN_eq, nowN_eq, fcPs_eq l]
theorem fcC_eq (c : C) (k : C → γ) : fcC c k = k c := by
  cases c with
  | ptr b o => exact nowN_eq b fun b => k (.ptr b o)
  | sl b o n c => exact nowN_eq b fun b => k (.sl b o n c)
  | slf b o n c => exact nowN_eq b fun b => k (.slf b o n c)
  | fn f l m =>
    show fcPs l (fun l => fcNs m fun m => k (.fn f l m)) = _
    rw [fcPs_eq, fcNs_eq]
  | yl b => exact nowN_eq b fun b => k (.yl b)
  | mp b => exact nowN_eq b fun b => k (.mp b)
  | _ => rfl
theorem fcL_eq : ∀ (l : List C) (k : List C → γ), fcL l k = k l
  | [], k => rfl
  | c :: l, k => by
    show fcC c (fun c => fcL l fun l => k (c :: l)) = _
    rw [fcC_eq, fcL_eq l]
theorem fc1_eq (x : V1) (k : V1 → γ) : fc1 x k = k x := by
  cases x with
  | one c => exact fcC_eq c fun c => k (.one c)
  | agg l => exact fcL_eq l fun l => k (.agg l)
theorem fc1s_eq : ∀ (l : List V1) (k : List V1 → γ), fc1s l k = k l
  | [], k => rfl
  | c :: l, k => by
    show fc1 c (fun c => fc1s l fun l => k (c :: l)) = _
    rw [fc1_eq, fc1s_eq l]
theorem fcV_eq (x : V) (k : V → γ) : fcV x k = k x := by
  cases x with
  | s c => exact fc1_eq c fun c => k (.s c)
  | tup l => exact fc1s_eq l fun l => k (.tup l)
theorem pushLC_eq (g : Nat → Nat) : ∀ (l : List (List C × TypeId)) (m : Mem) (k : Mem → γ), pushLC g l m k = k (pushL g l m)
  | [], m, k => rfl
  | (cs, e) :: l, m, k => by
    show fcL (cs.map (mapC g)) (fun cs => pushK m (.cells cs e) fun m => pushLC g l m k) = _
    rw [fcL_eq, pushK_eq, pushLC_eq g l]; rfl
end
theorem deepC_eq (d : DRow) (l : List V1) (m : Mem) : deepC d l m = deepX d l m := by
  unfold deepC deepX
  cases findBs l m d.pl [] with
  | none => rfl
  | some bs =>
    dsimp only
    cases fitsD d l m bs with
    | false => rfl
    | true => simp only [cond_true, fcV_eq, pushLC_eq]
theorem deepsC_cases {l : List V1} {m : Mem} {rest : Ans} : ∀ {ds : List DRow} {r : V × Mem}, deepsC l m ds rest = some r → (∃ d ∈ ds, deepX d l m = some r) ∨ rest = some r
  | [], r, h => .inr h
  | d :: ds, r, h => by
    have h' : optK (deepC d l m) (fun p => some p) (deepsC l m ds rest) = some r := h
    rcases optK_cases (deepC d l m) (fun p => some p) (deepsC l m ds rest) with ⟨p, h1, h2⟩ | ⟨_, h2⟩
    · rw [h2, ← h1, deepC_eq] at h'
      exact .inl ⟨d, by simp, h'⟩
    · rw [h2] at h'
      rcases deepsC_cases h' with ⟨d', h3, h4⟩ | h3
      · exact .inl ⟨d', by simp [h3], h4⟩
      · exact .inr h3
theorem stepC_ok (hE : ∀ W, EnvOk E W) (hT : TabOk E rows isExt) (L : Nat) {run : Runs} (hR : ∀ W, RunOk E W run) (W : Base) : RunOk E W (stepC E rows isExt L run) := by
  have hS := slow_runOk hT.orc (hE W) (hR W) L
  have key : ∀ f args m v m', stepC E rows isExt L run true f args m = some (v, m') → CallOk E W f args m v m' := by
    intro f args m v m' h
    have slow : slowF E run L true f args m = some (v, m') → CallOk E W f args m v m' := fun h => ⟨hS.frm _ _ _ _ _ _ h, fun ρ xs w => hS.calls _ _ _ _ _ h ρ xs w⟩
    have h0 : deepsC args m (deepFor rows.deep f) (Box.rec (motive := fun _ => Ans) (slowF E run L true f args m)
      (fun n iso c fin => Bool.rec (motive := fun _ => Ans) (fastF run n c fin args m)
        (optK (fastF run n c fin args mem0) (fun p => Prod.rec (motive := fun _ => Ans) (fun v _ => Bool.rec (motive := fun _ => Ans) none (some (v, m)) (bareF v)) p) none)
        (Bool.rec (motive := fun _ => Bool) false (bareL args) iso)) (compF E rows isExt L f)) = some (v, m') := h
    rcases deepsC_cases h0 with ⟨d, hd, hdx⟩ | h'
    · have hd2 := List.mem_filter.1 hd
      have hdf : d.f = f := beq_t hd2.2
      obtain ⟨k1, k2⟩ := deep_use (hT.deep d hd2.1) hdx
      rw [hdf] at k2
      exact ⟨k1, fun ρ xs w hV hx hm => k2 W ρ xs w hV hx hm⟩
    rcases compF_spec hT L f with hb | ⟨fn, body, c, fin, iso, h1, h2, h3, h4, h5, hb⟩
    · rw [hb] at h'; exact slow h'
    · rw [hb] at h'
      dsimp only at h'
      cases hq : (Bool.rec (motive := fun _ => Bool) false (bareL args) iso : Bool) with
      | false =>
        rw [hq] at h'
        exact fast_ok (hE W) (hR W) h1 h2 h3 h4 h5 h'
      | true =>
        rw [hq] at h'
        have hbare : args.all bare1 = true := by
          cases iso with
          | false => cases hq
          | true => rw [← bareL_eq]; exact hq
        have h'' : optK (fastF run fn.ntmps c fin args mem0) (fun p => Prod.rec (motive := fun _ => Ans) (fun v _ => Bool.rec (motive := fun _ => Ans) none (some (v, m)) (bareF v)) p) none = some (v, m') := h'
        rcases optK_cases (fastF run fn.ntmps c fin args mem0) (fun p => Prod.rec (motive := fun _ => Ans) (fun v _ => Bool.rec (motive := fun _ => Ans) none (some (v, m)) (bareF v)) p) none with ⟨⟨v1, m1⟩, h6, h7⟩ | ⟨_, h7⟩
        · rw [h7] at h''
          have h8 : (Bool.rec (motive := fun _ => Ans) none (some (v1, m)) (bareF v1) : Ans) = some (v, m') := h''
          cases hv : bareF v1 with
          | false => rw [hv] at h8; cases h8
          | true =>
            rw [hv] at h8
            have h9 : (some (v1, m) : Ans) = some (v, m') := h8
            simp only [Option.some.injEq, Prod.mk.injEq] at h9
            obtain ⟨rfl, rfl⟩ := h9
            have hk : Known E.P f args v1 := call_known (fun w => MemRel.empty w _ E.val) hbare (by rw [← bareF_eq]; exact hv) fun W => fast_ok (hE W) (hR W) h1 h2 h3 h4 h5 h6
            refine ⟨.refl _, fun ρ xs w hV hx hm => ?_⟩
            obtain ⟨k1, k2⟩ := hk ρ xs w hx
            refine ⟨k1, k2.mono fun e w' he => ?_⟩
            obtain ⟨x, rfl, k3, k4⟩ := he
            exact ⟨x, ρ, rfl, Ext.refl _, Keep.refl _ _ _, k3, hm.later k4⟩
        · rw [h7] at h''; cases h''
  refine ⟨fun k f args m v m' h => ?_, fun b args m v m' h => ?_, fun f args m v m' h => (key f args m v m' h).2⟩
  · cases k with
    | true => exact (key f args m v m' h).1
    | false =>
      obtain ⟨inner, hI, h'⟩ := roundC_ok (hE W) hT (hR W) L (show roundC E rows isExt L run f args m = some (v, m') from h)
      obtain ⟨k1, k2⟩ := round_run (hE W) hI h'
      exact k1.frm _ _ _ _ _ _ k2
  · obtain ⟨inner, hI, h'⟩ := roundC_ok (hE W) hT (hR W) L (show roundC E rows isExt L run b args m = some (v, m') from h)
    obtain ⟨k1, k2⟩ := round_run (hE W) hI h'
    exact k1.rounds _ _ _ _ _ k2
theorem runC_ok (hE : ∀ W, EnvOk E W) (hT : TabOk E rows isExt) (L : Nat) : ∀ (d : Nat) (W : Base), RunOk E W (runC E rows isExt L d)
  | 0, W => by
    refine ⟨fun k f args m v m' h => ?_, fun b args m v m' h => ?_, fun f args m v m' h => ?_⟩ <;> exact absurd h (by intro hc; cases hc)
  | d + 1, W => stepC_ok hE hT L (runC_ok hE hT L d) W
/-- One row of a table, by one run. -/
theorem row_knownC (hE : ∀ W, EnvOk E W) (hT : TabOk E rows isExt) (L d : Nat) {r : Row} (h : (r.l.all bare1 && bareV r.v && isRun r (runC E rows isExt L d true r.f r.l mem0)) = true) : Known E.P r.f r.l r.v := by
  simp only [Bool.and_eq_true] at h
  obtain ⟨⟨h1, h2⟩, h3⟩ := h
  unfold isRun at h3
  split at h3
  · rename_i v m hm
    have hv := eqV_eq h3
    subst hv
    exact call_known (fun w => MemRel.empty w _ E.val) h1 h2 fun W => ⟨(runC_ok hE hT L d W).frm _ _ _ _ _ _ hm, fun ρ xs w => (runC_ok hE hT L d W).calls _ _ _ _ _ hm ρ xs w⟩
  · cases h3
/-- A call in a memory of its own, by one run. -/
theorem deep_knownC (hE : ∀ W, EnvOk E W) (hT : TabOk E rows isExt) (L n : Nat) {d : DRow} (h : chkD d (runC E rows isExt L n true d.f d.l (memL d.bl)) = true) : Deep E.P E.val d := by
  cases hr : runC E rows isExt L n true d.f d.l (memL d.bl) with
  | none => rw [hr] at h; cases h
  | some p =>
    obtain ⟨v, m⟩ := p
    rw [hr] at h
    exact deep_of (fun W ρ xs w hV hx hm => (runC_ok hE hT L n W).calls _ _ _ _ _ hr ρ xs w hV hx hm) h
end
end Go.Ry
