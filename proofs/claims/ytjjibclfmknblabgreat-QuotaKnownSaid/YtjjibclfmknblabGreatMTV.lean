/-
  THE RUNNER, COMPILED, part 4: operations that write or call; regions.
  THE RUNNER, COMPILED, part 5: regions, code.
-/
import Derived.Test.YtjjibclfmknblabGreatMTT
set_option linter.all false
namespace Go.Ry
open Go Go.RowKit

/-- What is asked of the tables. -/
structure TabOk (E : Env) (rows : Tab) (isExt : FuncId → Bool) : Prop where
  ext : ∀ f l, isExt f = false → E.ext f l = none
  sum : ∀ f l, E.sum f l = sumT rows f l
  deep : ∀ d ∈ rows.deep, Deep E.P E.val d
  orc : ∀ i, E.orc i = none
theorem rowsFor_eq (f : FuncId) (l : List V1) : ∀ rows : List Row, sumOf (rowsFor rows f) f l = sumOf rows f l
  | [] => rfl
  | r :: rs => by
    have ih := rowsFor_eq f l rs
    unfold rowsFor at ih ⊢
    cases hf : Nat.beq r.f f with
    | true =>
      rw [List.filter_cons_of_pos (by simpa using hf)]
      simp only [sumOf]
      rw [ih]
    | false =>
      rw [List.filter_cons_of_neg (by simp [hf])]
      simp only [sumOf, hf, Bool.false_and, cond_false]
      exact ih

section
variable (E : Env) (n : Nat)
/-- An operation that is no read or reckoning, compiled. -/
def HSim (o : Oper) (c : Reg → Reg) : Prop := OSim E n o c ∧ (∀ st, pureO E st o = none) ∧ ∀ st, looksAt st o = none
variable {E n} {s : Set'}
variable {d : Option Tmp} {ty : TypeId} {pos : String} {af : Array Edge} {gu : Option (Nat × Bool)}
theorem o_close {o : Oper} (hs : IsS n o.dst s) {v : V} {m' : Mem} {r : R64} {m : Mem} {run : Runs} (hv : ∀ ds, opX E run ⟨tmOf n r, m, ds⟩ o = some (v, m')) (next : Reg) (k : Kon) {x : Rz} (hx : x = s v r fun r' => next run k r' m') :
    ∃ v m' r', (∀ ds, opX E run ⟨tmOf n r, m, ds⟩ o = some (v, m')) ∧ (∀ m ds, St.put ⟨tmOf n r, m, ds⟩ o.dst v = ⟨tmOf n r', m, ds⟩) ∧ x = next run k r' m' := by
  obtain ⟨r', h1, h2⟩ := put_close hs v r fun r' => next run k r' m'
  exact ⟨v, m', r', hv, h1, hx.trans h2⟩
theorem slowO_sim {o : Oper} (hn : n ≤ 128) (hsm : smallOps n o = true) (hs : IsS n o.dst s) : OSim E n o (slowO E o s) := fun next run k r m hf => by
  unfold slowO at hf ⊢
  rw [opF_eq, op_like (st' := ⟨tmOf n r, m, []⟩) ⟨eval_small hn hsm r m [] [], rfl⟩] at hf ⊢
  rcases optK_cases (opX E run ⟨tmOf n r, m, []⟩ o) _ _ with ⟨⟨v, m'⟩, h1, h2⟩ | ⟨_, h2⟩
  · obtain ⟨hp, hn', wr⟩ := m'
    refine o_close hs (fun ds => (op_ds E run _ _ _ _ _).trans h1) next k (h2.trans ?_)
    show nowN hn' (fun hn => nowN wr fun wr => s v r fun r' => next run k r' ⟨hp, hn, wr⟩) = _
    rw [nowN_eq, nowN_eq]
  · exact absurd h2 hf
theorem oneR_eq : ∀ l : List C, oneR l = oneCells l
  | [] => rfl
  | c :: l => by
    have ih := oneR_eq l
    cases c with
    | v x =>
      show sel x.oneCell' (oneR l) false = _
      rw [ih]
      simp only [oneCells]
      cases x.oneCell' <;> rfl
    | _ => exact ih
theorem storeC_sim {t : TypeId} {sz : Nat} {a x : Operand} {ga gx : Get} (hz : sizeX E.P t = some sz) (hs : IsS n d s) (ha : IsG n a ga) (hx : IsG n x gx) : HSim E n ⟨d, .store t a x, ty, pos, af, gu⟩ (storeC sz ga gx s) := by
  refine ⟨fun next run k r m hf => ?_, fun st => rfl, fun st => rfl⟩
  unfold storeC at hf ⊢
  dsimp -failIfUnchanged only at hf ⊢
  rcases vPtr_cases (ga r) _ _ with ⟨b, q, h1, h2⟩ | h2
  · rw [h2] at hf ⊢
    rcases v1_cases (gx r) _ _ with ⟨y, h3, h4⟩ | h4
    · rw [h4, getR_eq] at hf ⊢
      rw [cellsR_eq, lenR_eq, oneR_eq] at hf ⊢
      have hcc : (Bool.rec (motive := fun _ => Bool) false (oneCells y.cells) (Nat.beq y.cells.length sz) : Bool) = (Nat.beq y.cells.length sz && oneCells y.cells) := by
        cases Nat.beq y.cells.length sz <;> rfl
      rw [hcc] at hf ⊢
      cases hc : Nat.beq y.cells.length sz && oneCells y.cells with
      | false => rw [hc] at hf; exact absurd rfl hf
      | true =>
        rw [hc] at hf
        have hf' : optK (m.hp.get b) (fun bl => blkCells bl (fun l e => putAtR y.cells l q fun l' => updK m b (.cells l' e) fun m' => s (.tup []) r fun r' => next run k r' m') .fail) .fail ≠ Rz.fail := hf
        show ∃ v m' r', _ ∧ _ ∧ optK (m.hp.get b) (fun bl => blkCells bl (fun l e => putAtR y.cells l q fun l' => updK m b (.cells l' e) fun m' => s (.tup []) r fun r' => next run k r' m') .fail) .fail = _
        rcases optK_cases (m.hp.get b) _ _ with ⟨bl, h5, h6⟩ | ⟨_, h6⟩
        · rw [h6] at hf' ⊢
          rcases blkCells_cases bl _ _ with ⟨l, e, rfl, h8⟩ | h8
          · rw [h8, putAtR_eq] at hf' ⊢
            cases hp : putAt l q y.cells with
            | none => rw [hp] at hf'; exact absurd rfl hf'
            | some l' =>
              dsimp only
              rw [updK_eq]
              refine o_close hs (v := .tup []) (m' := m.upd b (.cells l' e)) (fun ds => ?_) next k rfl
              have ea : St.evc ⟨tmOf n r, m, ds⟩ a = some (.ptr b q) := evc_of ((ha r m ds).trans (by rw [h1]))
              have ex : St.ev1 ⟨tmOf n r, m, ds⟩ x = some y := ev1_of ((hx r m ds).trans (by rw [h3]))
              simp only [opX, pureO, pureX, orcX, actX, memX, ea, ex, hz, hc, cond_true, h5, hp, Option.map_some]
          · exact absurd h8 hf'
        · exact absurd h6 hf'
    · exact absurd h4 hf
  · exact absurd h2 hf
theorem boxC_sim {t : TypeId} {x : Operand} {gx : Get} (hs : IsS n d s) (hx : IsG n x gx) : HSim E n ⟨d, .box t x, ty, pos, af, gu⟩ (boxC t gx s) := by
  refine ⟨fun next run k r m hf => ?_, fun st => rfl, fun st => rfl⟩
  unfold boxC at hf ⊢
  rcases v1_cases (gx r) _ _ with ⟨y, h3, h4⟩ | h4
  · rw [h4, pushK_eq, cellsR_eq]
    refine o_close hs (v := .s (.one (.ptr m.hn 0))) (m' := m.push (.cells y.cells t)) (fun ds => ?_) next k rfl
    have ex : St.ev1 ⟨tmOf n r, m, ds⟩ x = some y := ev1_of ((hx r m ds).trans (by rw [h3]))
    simp only [opX, pureO, pureX, orcX, actX, memX, ex]
  · exact absurd h4 hf
theorem allocC_sim {t : TypeId} {z : List C} (hz : zeroX E.P t = some z) (hs : IsS n d s) : OSim E n ⟨d, .alloc t, ty, pos, af, gu⟩ (allocC t z s) := fun next run k r m hf => by
  unfold allocC
  rw [pushK_eq]
  refine o_close hs (v := .s (.one (.ptr m.hn 0))) (m' := m.push (.cells z t)) (fun ds => ?_) next k rfl
  simp only [opX, pureO, pureX, orcX, actX, memX, hz]
theorem argsC_spec {r : R64} {m : Mem} : ∀ {xs : List Operand} {gs : List Get}, IsGs n xs gs → ∀ k : List V1 → Rz, argsC gs r k = .fail ∨ ∃ l, (∀ ds, argsX ⟨tmOf n r, m, ds⟩ xs = some l) ∧ argsC gs r k = k l
  | [], _, .nil, k => .inr ⟨[], fun _ => rfl, rfl⟩
  | x :: xs, _, .cons (b := g) (m := gs) hg hgs, k => by
    show v1 (g r) (fun y => argsC gs r fun l => k (y :: l)) .fail = .fail ∨ ∃ l, _ ∧ v1 (g r) (fun y => argsC gs r fun l => k (y :: l)) .fail = k l
    rcases v1_cases (g r) (fun y => argsC gs r fun l => k (y :: l)) Rz.fail with ⟨y, h1, h2⟩ | h2
    · rw [h2]
      rcases argsC_spec (r := r) (m := m) hgs fun l => k (y :: l) with h3 | ⟨l, h3, h4⟩
      · exact .inl h3
      · refine .inr ⟨y :: l, fun ds => ?_, h4⟩
        have ex : St.ev1 ⟨tmOf n r, m, ds⟩ x = some y := ev1_of ((hg r m ds).trans (by rw [h1]))
        simp only [argsX, ex, h3 ds]
    · exact .inl h2
variable {rows : Tab} {isExt : FuncId → Bool}
theorem callS_sim (hT : TabOk E rows isExt) {f : FuncId} {args : Array Operand} {ts : Array TypeId} {gs : List Get} (he : isExt f = false) (hs : IsS n d s) (hg : IsGs n args.toList gs) :
    HSim E n ⟨d, .call { callee := .value (.func f), args := args, argTypes := ts }, ty, pos, af, gu⟩ (callS (rows.fam f) f (rowsFor rows.rows f) gs s) := by
  refine ⟨fun next run k r m hf => ?_, fun st => rfl, fun st => rfl⟩
  unfold callS at hf ⊢
  rcases argsC_spec (r := r) (m := m) hg (fun l => optK (rows.fam f l) (fun v => s v r fun r' => next run k r' m) <| optK (sumOf (rowsFor rows.rows f) f l) (fun v => s v r fun r' => next run k r' m)
    (optK (run true f l m) (fun p => Prod.rec (motive := fun _ => Rz) (fun v m' => s v r fun r' => next run k r' m') p) .fail)) with h1 | ⟨l, h1, h2⟩
  · exact absurd h1 hf
  · rw [h2] at hf ⊢
    have hall : fstPtrs [] ++ (l ++ capPtrs []) = l := by simp [fstPtrs, capPtrs]
    have hcall : ∀ ds, opX E run ⟨tmOf n r, m, ds⟩ ⟨d, .call { callee := .value (.func f), args := args, argTypes := ts }, ty, pos, af, gu⟩ = match sumT rows f l with | some v => some (v, m) | none => run true f l m := fun ds => by
      have e1 : St.evc ⟨tmOf n r, m, ds⟩ (.func f) = some (.fn f [] []) := rfl
      simp only [opX, pureO, pureX, orcX, actX, callX, e1, h1 ds, hall, hT.ext f l he, hT.sum]
      cases sumT rows f l <;> rfl
    rw [rowsFor_eq] at hf ⊢
    rcases optK_cases (rows.fam f l) (fun v => s v r fun r' => next run k r' m) (optK (sumOf rows.rows f l) (fun v => s v r fun r' => next run k r' m)
      (optK (run true f l m) (fun p => Prod.rec (motive := fun _ => Rz) (fun v m' => s v r fun r' => next run k r' m') p) .fail)) with ⟨v, h3, h4⟩ | ⟨h3, h4⟩
    · rw [h4]
      exact o_close hs (fun ds => by rw [hcall ds, sumT, h3]) next k rfl
    · rw [h4] at hf ⊢
      have hsum : sumT rows f l = sumOf rows.rows f l := by rw [sumT, h3]
      rcases optK_cases (sumOf rows.rows f l) (fun v => s v r fun r' => next run k r' m)
        (optK (run true f l m) (fun p => Prod.rec (motive := fun _ => Rz) (fun v m' => s v r fun r' => next run k r' m') p) .fail) with ⟨v, h5, h6⟩ | ⟨h5, h6⟩
      · rw [h6]
        exact o_close hs (fun ds => by rw [hcall ds, hsum, h5]) next k rfl
      · rw [h6] at hf ⊢
        rcases optK_cases (run true f l m) (fun p => Prod.rec (motive := fun _ => Rz) (fun v m' => s v r fun r' => next run k r' m') p) Rz.fail with ⟨⟨v, m'⟩, h7, h8⟩ | ⟨_, h8⟩
        · exact o_close hs (fun ds => by rw [hcall ds, hsum, h5]; exact h7) next k h8
        · exact absurd h8 hf
theorem sumV_eq (T : Tab) (f : FuncId) (l : List V1) : sumV T f l = sumT T f l := by
  unfold sumV sumT
  rw [rowsFor_eq]
theorem callV_sim (hT : TabOk E rows isExt) {x : Operand} {args : Array Operand} {ts : Array TypeId} {gf : Get} {gs : List Get}
    (hsl : OSim E n ⟨d, .call { callee := .value x, args := args, argTypes := ts }, ty, pos, af, gu⟩ (slowO E ⟨d, .call { callee := .value x, args := args, argTypes := ts }, ty, pos, af, gu⟩ s)) (hs : IsS n d s) (hx : IsG n x gf) (hg : IsGs n args.toList gs) :
    HSim E n ⟨d, .call { callee := .value x, args := args, argTypes := ts }, ty, pos, af, gu⟩ fun next => callV rows isExt gf gs s (slowO E ⟨d, .call { callee := .value x, args := args, argTypes := ts }, ty, pos, af, gu⟩ s next) next := by
  refine ⟨fun next run k r m hf => ?_, fun st => rfl, fun st => rfl⟩
  have hslow := hsl next run k r m
  unfold callV at hf ⊢
  simp only [sumV_eq] at hf ⊢
  dsimp -failIfUnchanged only at hf ⊢
  rcases vCall_cases (gf r) _ _ _ with ⟨f, fs, caps, h1, h2⟩ | ⟨b, h1, h2⟩ | h2
  · rw [h2] at hf ⊢
    have e1 : ∀ ds, St.evc ⟨tmOf n r, m, ds⟩ x = some (.fn f fs caps) := fun ds => evc_of ((hx r m ds).trans (by rw [h1]))
    cases he : isExt f with
    | true => rw [he] at hf; exact hslow hf
    | false =>
      rw [he] at hf
      have hf' : (argsC gs r fun l => optK (sumT rows f (fstPtrs fs ++ (l ++ capPtrs caps))) (fun v => s v r fun r' => next run k r' m)
        (optK (run true f (fstPtrs fs ++ (l ++ capPtrs caps)) m) (fun p => Prod.rec (motive := fun _ => Rz) (fun v m' => s v r fun r' => next run k r' m') p) .fail)) ≠ .fail := hf
      show ∃ v m' r', _ ∧ _ ∧ (argsC gs r fun l => optK (sumT rows f (fstPtrs fs ++ (l ++ capPtrs caps))) (fun v => s v r fun r' => next run k r' m)
        (optK (run true f (fstPtrs fs ++ (l ++ capPtrs caps)) m) (fun p => Prod.rec (motive := fun _ => Rz) (fun v m' => s v r fun r' => next run k r' m') p) .fail)) = _
      rcases argsC_spec (r := r) (m := m) hg (fun l => optK (sumT rows f (fstPtrs fs ++ (l ++ capPtrs caps))) (fun v => s v r fun r' => next run k r' m)
        (optK (run true f (fstPtrs fs ++ (l ++ capPtrs caps)) m) (fun p => Prod.rec (motive := fun _ => Rz) (fun v m' => s v r fun r' => next run k r' m') p) .fail)) with h3 | ⟨l, h3, h4⟩
      · exact absurd h3 hf'
      · rw [h4] at hf' ⊢
        have hcall : ∀ ds, opX E run ⟨tmOf n r, m, ds⟩ ⟨d, .call { callee := .value x, args := args, argTypes := ts }, ty, pos, af, gu⟩ = match sumT rows f (fstPtrs fs ++ (l ++ capPtrs caps)) with | some v => some (v, m) | none => run true f (fstPtrs fs ++ (l ++ capPtrs caps)) m := fun ds => by
          simp only [opX, pureO, pureX, orcX, actX, callX, e1 ds, h3 ds, hT.ext f _ he, hT.sum]
          cases sumT rows f (fstPtrs fs ++ (l ++ capPtrs caps)) <;> rfl
        rcases optK_cases (sumT rows f (fstPtrs fs ++ (l ++ capPtrs caps))) (fun v => s v r fun r' => next run k r' m)
          (optK (run true f (fstPtrs fs ++ (l ++ capPtrs caps)) m) (fun p => Prod.rec (motive := fun _ => Rz) (fun v m' => s v r fun r' => next run k r' m') p) .fail) with ⟨v, h5, h6⟩ | ⟨h5, h6⟩
        · rw [h6]
          exact o_close hs (fun ds => by rw [hcall ds, h5]) next k rfl
        · rw [h6] at hf' ⊢
          rcases optK_cases (run true f (fstPtrs fs ++ (l ++ capPtrs caps)) m) (fun p => Prod.rec (motive := fun _ => Rz) (fun v m' => s v r fun r' => next run k r' m') p) Rz.fail with ⟨⟨v, m'⟩, h7, h8⟩ | ⟨_, h8⟩
          · exact o_close hs (fun ds => by rw [hcall ds, h5]; exact h7) next k h8
          · exact absurd h8 hf'
  · rw [h2] at hf ⊢
    have e1 : ∀ ds, St.evc ⟨tmOf n r, m, ds⟩ x = some (.yl b) := fun ds => evc_of ((hx r m ds).trans (by rw [h1]))
    rcases argsC_spec (r := r) (m := m) hg (fun l => optK (run false b l m) (fun p => Prod.rec (motive := fun _ => Rz) (fun v m' => s v r fun r' => next run k r' m') p) .fail) with h3 | ⟨l, h3, h4⟩
    · exact absurd h3 hf
    · rw [h4] at hf ⊢
      rcases optK_cases (run false b l m) (fun p => Prod.rec (motive := fun _ => Rz) (fun v m' => s v r fun r' => next run k r' m') p) Rz.fail with ⟨⟨v, m'⟩, h7, h8⟩ | ⟨_, h8⟩
      · refine o_close hs (fun ds => ?_) next k h8
        simp only [opX, pureO, pureX, orcX, actX, callX, e1 ds, h3 ds]
        exact h7
      · exact absurd h8 hf
  · rw [h2] at hf ⊢
    exact hslow hf
theorem bsC_sim {t e : TypeId} {len sz : Nat} {ps : Array (Nat × Operand)} {z : List C} {l : List (Nat × Nat × Get)} (hu : E.P.underlying t = some (.slice e)) (hz : sizeX E.P e = some sz) (hzz : zeroX E.P e = some z)
    (hc : (Nat.ble len 10000 && Nat.ble sz 1000 && Nat.blt 0 sz && Nat.beq z.length sz) = true) (hs : IsS n d s) (hl : IsPs n (fun i => some (i * sz, sz)) ps.toList l) :
    HSim E n ⟨d, .buildSlice t len ps, ty, pos, af, gu⟩ (bsC e len (zerosX z len) l s) := by
  refine ⟨fun next run k r m hf => ?_, fun st => rfl, fun st => rfl⟩
  unfold bsC at hf ⊢
  rcases hl r m (zerosX z len) (fun l => pushK m (.cells l e) fun m' => s (.s (.one (.sl m.hn 0 len len))) r fun r' => next run k r' m') with h1 | ⟨parts, cells, h1, h2, h3⟩
  · exact absurd h1 hf
  · rw [h3, pushK_eq]
    refine o_close hs (v := .s (.one (.sl m.hn 0 len len))) (m' := m.push (.cells cells e)) (fun ds => ?_) next k rfl
    simp only [opX, pureO, pureX, orcX, actX, memX, hu, h1 ds, hz, hzz, hc, cond_true, h2, Option.map_some]

/-! ### The compilers of operations -/
variable {β : Type}
theorem kindOf_spec {P : Program} {t : TypeId} {k : IntKind} (h : kindOf' P t = some k) : P.underlying t = some (.int k) := by
  unfold kindOf' at h
  split at h
  · rename_i k' hk; cases h; exact hk
  · cases h
theorem compP_yields (hn : n ≤ 128) (o : Oper) (k : (Reg → Reg) → β) (dd : β) : Yields (compP E n o k dd) k dd (fun c => PSim E n o c ∧ ∀ st, looksAt st o = none) := by
  obtain ⟨d, op, ty, pos, af, gu⟩ := o
  unfold compP
  cases hsm : smallOps n ⟨d, op, ty, pos, af, gu⟩ with
  | false => exact .d
  | true =>
  simp only [cond_true]
  refine (mkD_yields hn d _ _).into (fun s hs => ?_) .d
  have hsl : PSim E n ⟨d, op, ty, pos, af, gu⟩ (slowP E ⟨d, op, ty, pos, af, gu⟩ s) := slowP_sim hn hsm hs
  have slow : ∀ (hl : ∀ st, looksAt st ⟨d, op, ty, pos, af, gu⟩ = none), Yields (k (slowP E ⟨d, op, ty, pos, af, gu⟩ s)) k dd (fun c => PSim E n ⟨d, op, ty, pos, af, gu⟩ c ∧ ∀ st, looksAt st ⟨d, op, ty, pos, af, gu⟩ = none) := fun hl => .k ⟨hsl, hl⟩
  have X := fun {β' : Type} (x : Operand) (k : Get → β') (d : β') => mkX_yields hn x k d
  clear hsm
  dsimp -failIfUnchanged only
  split
  · exact (X _ _ _).into (fun g hg => .k ⟨movC_sim hs hg, fun _ => rfl⟩) (slow fun _ => rfl)
  · exact (X _ _ _).into (fun g hg => .k ⟨assC_sim hs hg, fun _ => rfl⟩) (slow fun _ => rfl)
  · exact (X _ _ _).into (fun gc hc => (X _ _ _).into (fun ga ha => (X _ _ _).into (fun gb hb => .k (a := fun next => pickC gc ga gb s (slowP E _ s next) next) ⟨pickC_sim hsl hs hc ha hb, fun _ => rfl⟩) (slow fun _ => rfl)) (slow fun _ => rfl)) (slow fun _ => rfl)
  · rename_i bop t x y yt
    cases hsh : isShift bop with
    | true => exact slow fun _ => rfl
    | false =>
      simp only [cond_false]
      split
      · rename_i kk hk
        refine (X _ _ _).into (fun gx hx => (X _ _ _).into (fun gy hy => ?_) (slow fun _ => rfl)) (slow fun _ => rfl)
        obtain ⟨q, hq, hqe⟩ := pickK_spec kk fun q => fun2 bop kk (loK kk) (hiK kk) fun f => k fun next => binC q f gx gy s (slowP E ⟨d, .binOp bop t x y yt, ty, pos, af, gu⟩ s next) next
        obtain ⟨f, hF, hf⟩ := fun2_spec bop kk fun f => k fun next => binC q f gx gy s (slowP E ⟨d, .binOp bop t x y yt, ty, pos, af, gu⟩ s next) next
        refine .inr ⟨_, ⟨binC_sim hq hsh hF hsl hs hx hy, fun _ => rfl⟩, hqe.trans hf⟩
      · exact slow fun _ => rfl
  · rename_i src dst x
    split
    · rename_i u kk hu hk
      exact (X _ _ _).into (fun gx hx => .k (a := fun next => convC kk (loK kk) (hiK kk) gx s (slowP E _ s next) next) ⟨convC_sim hu (kindOf_spec hk) hsl hs hx, fun _ => rfl⟩) (slow fun _ => rfl)
    · exact slow fun _ => rfl
  · rename_i t x f
    split
    · rename_i off ho
      exact (X _ _ _).into (fun gx hx => .k (a := fun next => faC off gx s (slowP E _ s next) next) ⟨faC_sim ho hsl hs hx, fun _ => rfl⟩) (slow fun _ => rfl)
    · exact slow fun _ => rfl
  · rename_i t x i
    split
    · rename_i len sz ho
      exact (X _ _ _).into (fun gx hx => (X _ _ _).into (fun gi hi => .k (a := fun next => iaArr len sz gx gi s (slowP E _ s next) next) ⟨iaArr_sim ho hsl hs hx hi, fun _ => rfl⟩) (slow fun _ => rfl)) (slow fun _ => rfl)
    · rename_i sz ho
      exact (X _ _ _).into (fun gx hx => (X _ _ _).into (fun gi hi => .k (a := fun next => iaSl sz gx gi s (slowP E _ s next) next) ⟨iaSl_sim ho hsl hs hx hi, fun _ => rfl⟩) (slow fun _ => rfl)) (slow fun _ => rfl)
    · exact slow fun _ => rfl
  · exact (X _ _ _).into (fun g hg => .k ⟨exC_sim hs hg, fun _ => rfl⟩) (slow fun _ => rfl)
  · exact (X _ _ _).into (fun g hg => .k (a := fun next => notC g s (slowP E _ s next) next) ⟨notC_sim hsl hs hg, fun _ => rfl⟩) (slow fun _ => rfl)
  · exact slow fun _ => rfl
  · rename_i t ps
    split
    · rename_i z n' e hz hu
      split
      · rename_i sz hsz
        refine (mkPs_yields hn _ _ _ _).into (fun l hl => .k ⟨buildC_sim hs hl fun st parts cells h1 h2 => ?_, fun _ => rfl⟩) (slow fun _ => rfl)
        simp only [pureX, h1, hz, hu, hsz, h2, Option.map_some]
      · exact slow fun _ => rfl
    · rename_i z fs hz hu
      cases hall : fs.toList.all (fun f => (sizeX E.P f.type).isSome) with
      | false => exact slow fun _ => rfl
      | true =>
        simp only [cond_true]
        refine (mkPs_yields hn _ _ _ _).into (fun l hl => .k ⟨buildC_sim hs hl fun st parts cells h1 h2 => ?_, fun _ => rfl⟩) (slow fun _ => rfl)
        simp only [pureX, h1, hz, hu, hall, cond_true, h2, Option.map_some]
    · exact slow fun _ => rfl
  · exact (X _ _ _).into (fun g hg => .k (a := fun next => nilC g s (slowP E _ s next) next) ⟨nilC_sim hsl hs hg, fun _ => rfl⟩) (slow fun _ => rfl)
  · exact slow fun _ => rfl
  · rename_i t x f
    split
    · rename_i fs hu
      split
      · rename_i fd hfd
        exact (part_yields _ _).into (fun p hp => (X _ _ _).into (fun gx hx => .k (a := fun next => fieldC fd.offset p gx s (slowP E _ s next) next) ⟨fieldC_sim hu hfd hp hsl hs hx, fun _ => rfl⟩) (slow fun _ => rfl)) (slow fun _ => rfl)
      · exact slow fun _ => rfl
    · exact slow fun _ => rfl
  · rename_i t x i
    split
    · rename_i len e hu
      split
      · rename_i sz hsz
        exact (part_yields _ _).into (fun p hp => (X _ _ _).into (fun gx hx => (X _ _ _).into (fun gi hi => .k (a := fun next => indexC len sz p gx gi s (slowP E _ s next) next) ⟨indexC_sim hu hsz hp hsl hs hx hi, fun _ => rfl⟩) (slow fun _ => rfl)) (slow fun _ => rfl)) (slow fun _ => rfl)
      · exact slow fun _ => rfl
    · exact slow fun _ => rfl
  · exact (mkXs_yields hn _ _ _).into (fun gs hgs => (mkXs_yields hn _ _ _).into (fun hs' hhs => .k (a := fun next => mfC _ gs hs' s (slowP E _ s next) next) ⟨mfC_sim hsl hs hgs hhs, fun _ => rfl⟩) (slow fun _ => rfl)) (slow fun _ => rfl)
  · rename_i args ts
    split
    · rename_i x t h0 h1
      split
      · rename_i e hu
        exact (X _ _ _).into (fun g hg => .k (a := fun next => lenC g s (slowP E _ s next) next) ⟨lenC_sim h0 h1 hu hsl hs hg, fun _ => rfl⟩) (slow fun _ => rfl)
      · exact .d
      · exact slow fun _ => rfl
    · exact slow fun _ => rfl
  · exact .d
theorem compH_yields (hT : TabOk E rows isExt) (hn : n ≤ 128) (o : Oper) (k : (Reg → Reg) → β) (dd : β) : Yields (compH E n rows isExt o k dd) k dd (HSim E n o) := by
  obtain ⟨d, op, ty, pos, af, gu⟩ := o
  unfold compH
  cases hsm : smallOps n ⟨d, op, ty, pos, af, gu⟩ with
  | false => exact .d
  | true =>
  simp only [cond_true]
  refine (mkD_yields hn d _ _).into (fun s hs => ?_) .d
  have hsl : OSim E n ⟨d, op, ty, pos, af, gu⟩ (slowO E ⟨d, op, ty, pos, af, gu⟩ s) := slowO_sim hn hsm hs
  clear hsm
  dsimp -failIfUnchanged only
  split
  · split
    · rename_i sz hz
      exact (mkX_yields hn _ _ _).into (fun ga ha => (mkX_yields hn _ _ _).into (fun gx hx => .k (storeC_sim hz hs ha hx)) .d) .d
    · exact .d
  · exact (mkX_yields hn _ _ _).into (fun gx hx => .k (boxC_sim hs hx)) .d
  · rename_i f args ts
    cases he : isExt f with
    | true => exact .k ⟨hsl, fun _ => rfl, fun _ => rfl⟩
    | false =>
      simp only [cond_false]
      exact (mkXs_yields hn _ _ _).into (fun gs hgs => .k (callS_sim hT he hs hgs)) .d
  · rename_i x args ts _
    exact (mkX_yields hn _ _ _).into (fun gf hgf => (mkXs_yields hn _ _ _).into (fun gs hgs => .k (a := fun next => callV rows isExt gf gs s (slowO E _ s next) next) (callV_sim hT hsl hs hgf hgs)) (.k ⟨hsl, fun _ => rfl, fun _ => rfl⟩)) (.k ⟨hsl, fun _ => rfl, fun _ => rfl⟩)
  · rename_i t len ps
    split
    · rename_i e hu
      split
      · rename_i sz z hsz hz
        cases hc : (Nat.ble len 10000 && Nat.ble sz 1000 && Nat.blt 0 sz && Nat.beq z.length sz) with
        | false => exact .k ⟨hsl, fun _ => rfl, fun _ => rfl⟩
        | true =>
          simp only [cond_true]
          exact (mkPs_yields hn _ _ _ _).into (fun l hl => .k (bsC_sim hu hsz hz hc hs hl)) (.k ⟨hsl, fun _ => rfl, fun _ => rfl⟩)
      · exact .k ⟨hsl, fun _ => rfl, fun _ => rfl⟩
    · exact .k ⟨hsl, fun _ => rfl, fun _ => rfl⟩
  · exact .k ⟨hsl, fun _ => rfl, fun _ => rfl⟩
  · exact .k ⟨hsl, fun _ => rfl, fun _ => rfl⟩
  · exact .k ⟨hsl, fun _ => rfl, fun _ => rfl⟩
  · exact .k ⟨hsl, fun _ => rfl, fun _ => rfl⟩
  · exact .k ⟨hsl, fun _ => rfl, fun _ => rfl⟩
  · exact .k ⟨hsl, fun _ => rfl, fun _ => rfl⟩
  · exact .k ⟨hsl, fun _ => rfl, fun _ => rfl⟩
  · rename_i args ts
    split
    · rename_i t ht
      split
      · rename_i kt et hu
        refine .k ⟨hsl, fun st => ?_, fun _ => rfl⟩
        have h0 : pureX E.P st ⟨d, .call { callee := .builtin .len, args := args, argTypes := ts }, ty, pos, af, gu⟩ = none := by
          simp only [pureX, ht]
          cases args[0]? with
          | none => rfl
          | some x =>
            simp only
            cases st.ev1 x with
            | none => rfl
            | some a => simp only [lenX, hu, Option.map_none]
        simp only [pureO, h0, orcX]
      · exact .d
    · exact .d
  · exact .d
/-- A load, compiled: how it reads, its address, its setter. -/
def LSim (E : Env) (n : Nat) (o : Oper) (p : Part × Get × Set') : Prop := ∃ d t x ty pos af gu, o = ⟨d, .load t x, ty, pos, af, gu⟩ ∧ IsP E.P t p.1 ∧ IsG n x p.2.1 ∧ IsS n d p.2.2
theorem compL_yields (hn : n ≤ 128) (o : Oper) (k : Part → Get → Set' → β) (dd : β) : Yields (compL E n o k dd) (fun p => k p.1 p.2.1 p.2.2) dd (LSim E n o) := by
  obtain ⟨d, op, ty, pos, af, gu⟩ := o
  unfold compL
  dsimp only
  split
  · exact (mkD_yields hn d _ _).into (fun s hs => (part_yields _ _).into (fun p hp => (mkX_yields hn _ _ _).into (fun g hg => .k (k := fun p : Part × Get × Set' => k p.1 p.2.1 p.2.2) (a := (p, g, s)) ⟨d, _, _, ty, pos, af, gu, rfl, hp, hg, hs⟩) .d) .d) .d
  · exact .d
theorem compA_yields (hn : n ≤ 128) (o : Oper) (k : (Reg → Reg) → β) (dd : β) : Yields (compA E n o k dd) k dd (OSim E n o) := by
  obtain ⟨d, op, ty, pos, af, gu⟩ := o
  unfold compA
  dsimp only
  split
  · refine (mkD_yields hn d _ _).into (fun s hs => ?_) .d
    split
    · rename_i z hz
      exact .k (allocC_sim hz hs)
    · exact .d
  · exact .d
end
end Go.Ry
namespace Go.Ry
open Go Go.RowKit

section
variable (E : Env) (n : Nat)
/-- One step of a region in the order of the text. -/
def stepG (run : Runs) (ops : Array Oper) (st : St) (o : Oper) : Option (V × Mem) := bif wantedX ops st o then opX E run st o else some (.tup [], st.m)
def GSim (ops : Array Oper) (o : Oper) (c : Reg → Reg) : Prop := ∀ next run k r m, c next run k r m ≠ .fail →
  ∃ v m' r', (∀ ds, stepG E run ops ⟨tmOf n r, m, ds⟩ o = some (v, m')) ∧ (∀ m ds, St.put ⟨tmOf n r, m, ds⟩ o.dst v = ⟨tmOf n r', m, ds⟩) ∧ c next run k r m = next run k r' m'
/-- A region in the order of the text, compiled. -/
def RSim (ops : Array Oper) (l : List Oper) (c : Reg) : Prop := ∀ run k r m, c run k r m ≠ .fail →
  ∃ r' m', (∀ ds, opsX E run ops l ⟨tmOf n r, m, ds⟩ = some ⟨tmOf n r', m', ds⟩) ∧ c run k r m = k r' m'
variable {E n}
theorem OSim.g {ops : Array Oper} {o : Oper} {c : Reg → Reg} (hg : o.guard = none) (h : OSim E n o c) : GSim E n ops o c := fun next run k r m hf => by
  obtain ⟨v, m', r', h1, h2, h3⟩ := h next run k r m hf
  refine ⟨v, m', r', fun ds => ?_, h2, h3⟩
  simp only [stepG, wantedX, hg, cond_true]
  exact h1 ds
theorem want_ds (ops : Array Oper) (o : Oper) (tm : Tr V) (m m' : Mem) (ds ds' : List Nat) : wantedX ops ⟨tm, m, ds⟩ o = wantedX ops ⟨tm, m', ds'⟩ o := rfl
theorem slowG_sim {ops : Array Oper} {o : Oper} {s : Set'} (hn : n ≤ 128) (hsm : smallOps n o = true) (hs : IsS n o.dst s) : GSim E n ops o (slowG E n ops o s) := fun next run k r m hf => by
  unfold slowG at hf ⊢
  rw [wantF_eq] at hf ⊢
  cases hw : wantedX ops ⟨tmOf n r, m, []⟩ o with
  | true =>
    rw [hw] at hf
    obtain ⟨v, m', r', h1, h2, h3⟩ := slowO_sim (E := E) hn hsm hs next run k r m hf
    refine ⟨v, m', r', fun ds => ?_, h2, h3⟩
    unfold stepG
    rw [want_ds ops o _ m m ds [], hw]
    exact h1 ds
  | false =>
    obtain ⟨r', h1, h2⟩ := put_close hs (.tup []) r fun r' => next run k r' m
    refine ⟨.tup [], m, r', fun ds => ?_, h1, h2⟩
    unfold stepG
    rw [want_ds ops o _ m m ds [], hw]
    rfl
variable {rows : Tab} {isExt : FuncId → Bool} {β : Type}
theorem compB_yields (hT : TabOk E rows isExt) (hn : n ≤ 128) (o : Oper) (k : (Reg → Reg) → β) (dd : β) : Yields (compB E n rows isExt o k dd) k dd (OSim E n o) := by
  unfold compB
  refine (compP_yields hn o _ _).into (fun c hc => .k hc.1.op) ?_
  refine (compL_yields hn o _ _).into (fun p hp => ?_) ?_
  · obtain ⟨p, g, s⟩ := p
    obtain ⟨d, t, x, ty, pos, af, gu, rfl, h1, h2, h3⟩ := hp
    exact .k (loadC_sim h1 h3 h2).op
  · exact (compA_yields hn o _ _).into (fun c hc => .k hc) ((compH_yields hT hn o _ _).into (fun c hc => .k hc.1) .d)
theorem want_guard' {ops : Array Oper} {o : Oper} {j t : Nat} {want : Bool} {g : Get} (hn : n ≤ 128) (hg : o.guard = some (j, want)) (hd : (ops[j]?).bind (·.dst) = some t) (ht : t < n) (hgt : ∀ r, g r = r.get t) {r : R64} {b : Bool}
    (hb : g r = .s (.one (.v (.bool b)))) (m : Mem) (ds : List Nat) : wantedX ops ⟨tmOf n r, m, ds⟩ o = (Bool.rec (motive := fun _ => Bool) (bnot want) want b : Bool) := by
  have h1 : (tmOf n r).get t = some (.s (.one (.v (.bool b)))) := by rw [tmOf_get hn, if_pos ht, ← hgt, hb]
  simp only [wantedX, hg, yieldedX, hd, h1]
  cases b <;> cases want <;> rfl
theorem gdC_sim {ops : Array Oper} {o : Oper} {j t : Nat} {want : Bool} {g : Get} {s : Set'} {c : Reg → Reg} (hn : n ≤ 128) (hsm : smallOps n o = true) (hg : o.guard = some (j, want)) (hd : (ops[j]?).bind (·.dst) = some t) (ht : t < n) (hgt : ∀ r, g r = r.get t)
    (hs : IsS n o.dst s) (hc : OSim E n o c) : GSim E n ops o (gdC want g s c (slowG E n ops o s)) := fun next run k r m hf => by
  have hslow := slowG_sim (E := E) (ops := ops) hn hsm hs next run k r m
  unfold gdC at hf ⊢
  rcases vBool_cases (g r) (fun b => Bool.rec (motive := fun _ => Rz) (s (.tup []) r fun r' => next run k r' m) (c next run k r m) (Bool.rec (motive := fun _ => Bool) (bnot want) want b)) (slowG E n ops o s next run k r m) with ⟨b, h1, h2⟩ | h2
  · rw [h2] at hf ⊢
    have hw := fun ds => want_guard' hn hg hd ht hgt h1 m ds
    cases hq : (Bool.rec (motive := fun _ => Bool) (bnot want) want b : Bool) with
    | true =>
      rw [hq] at hf
      obtain ⟨v, m', r', h3, h4, h5⟩ := hc next run k r m hf
      refine ⟨v, m', r', fun ds => ?_, h4, h5⟩
      unfold stepG
      rw [(hw ds).trans hq]
      exact h3 ds
    | false =>
      obtain ⟨r', h3, h4⟩ := put_close hs (.tup []) r fun r' => next run k r' m
      refine ⟨.tup [], m, r', fun ds => ?_, h3, h4⟩
      unfold stepG
      rw [(hw ds).trans hq]
      rfl
  · rw [h2] at hf ⊢; exact hslow hf
theorem compO_yields (hT : TabOk E rows isExt) (hn : n ≤ 128) (ops : Array Oper) (o : Oper) (k : (Reg → Reg) → β) (dd : β) : Yields (compO E n rows isExt ops o k dd) k dd (GSim E n ops o) := by
  unfold compO
  have slow : Yields (bif smallOps n o then mkD n o.dst (fun s => k (slowG E n ops o s)) dd else dd) k dd (GSim E n ops o) := by
    cases hsm : smallOps n o with
    | false => exact .d
    | true => exact (mkD_yields hn _ _ _).into (fun s hs => .k (slowG_sim hn hsm hs)) .d
  dsimp only
  split
  · rename_i j want hg
    split
    · rename_i t hd
      cases hb : (Nat.blt t n && smallOps n o) with
      | false => exact slow
      | true =>
        simp only [Bool.and_eq_true] at hb
        have ht := blt_t hb.1
        simp only [cond_true]
        obtain ⟨g, hgt, hge⟩ := mkG_spec (i := t) (by omega) (fun g => mkD n o.dst (fun s => compB E n rows isExt o (fun c => k (gdC want g s c (slowG E n ops o s))) (bif smallOps n o then mkD n o.dst (fun s => k (slowG E n ops o s)) dd else dd)) dd)
        rw [hge]
        refine (mkD_yields hn _ _ _).into (fun s hs => ?_) .d
        exact (compB_yields hT hn o _ _).into (fun c hc => .k (gdC_sim hn hb.2 hg hd ht hgt hs hc)) slow
    · exact slow
  · rename_i hg
    exact (compB_yields hT hn o _ _).into (fun c hc => .k (hc.g hg)) slow
theorem compR_yields (hT : TabOk E rows isExt) (hn : n ≤ 128) (ops : Array Oper) : ∀ (l : List Oper) (k : Reg → β) (dd : β), Yields (compR E n rows isExt ops l k dd) k dd (RSim E n ops l)
  | [], k, dd => .k fun run k r m hf => ⟨r, m, fun _ => rfl, rfl⟩
  | o :: l, k, dd => by
    unfold compR
    refine (compO_yields hT hn ops o _ _).into (fun c hc => ?_) .d
    refine (compR_yields hT hn ops l _ _).into (fun next hnx => ?_) .d
    refine .k fun run k r m hf => ?_
    obtain ⟨v, m', r', h1, h2, h3⟩ := hc next run k r m hf
    rw [h3] at hf
    obtain ⟨r'', m'', h4, h5⟩ := hnx run k r' m' hf
    refine ⟨r'', m'', fun ds => ?_, h3.trans h5⟩
    have h1' := h1 ds
    unfold stepG at h1'
    simp only [opsX]
    cases hw : wantedX ops ⟨tmOf n r, m, ds⟩ o with
    | true =>
      rw [hw] at h1'
      simp only [cond_true] at h1' ⊢
      rw [h1']
      simp only
      rw [h2]; exact h4 ds
    | false =>
      rw [hw] at h1'
      simp only [cond_false, Option.some.injEq, Prod.mk.injEq] at h1' ⊢
      obtain ⟨rfl, rfl⟩ := h1'
      rw [h2]; exact h4 ds

/-! ### Regions that draw -/
variable (E n) in
def DSim (ops : Array Oper) (p : Plan) (c : DReg) : Prop := ∀ run hn0 k bs r m, c run hn0 k bs r m ≠ .fail →
  ∃ r' m', (∀ ds, drawP E run ops hn0 p bs ⟨tmOf n r, m, ds⟩ = some ⟨tmOf n r', m', ds⟩) ∧ c run hn0 k bs r m = k r' m'
variable (E n) in
/-- A step of a plan, compiled. -/
def TSim (ops : Array Oper) (i : Nat) (o : Oper) (f h : Bool) (c : DReg → DReg) : Prop := ∀ next run hn0 k bs r m, c next run hn0 k bs r m ≠ .fail →
  ∃ bs' r' m', (∀ p ds, drawP E run ops hn0 (.step i o f h p) bs ⟨tmOf n r, m, ds⟩ = drawP E run ops hn0 p bs' ⟨tmOf n r', m', ds⟩) ∧ c next run hn0 k bs r m = next run hn0 k bs' r' m'
variable (E n) in
/-- A step of a plan, compiled, where it is wanted. -/
def WSim (ops : Array Oper) (i : Nat) (o : Oper) (f h : Bool) (c : DReg → DReg) : Prop := ∀ next run hn0 k bs r m, (∀ ds, wantedX ops ⟨tmOf n r, m, ds⟩ o = true) → c next run hn0 k bs r m ≠ .fail →
  ∃ bs' r' m', (∀ p ds, drawP E run ops hn0 (.step i o f h p) bs ⟨tmOf n r, m, ds⟩ = drawP E run ops hn0 p bs' ⟨tmOf n r', m', ds⟩) ∧ c next run hn0 k bs r m = next run hn0 k bs' r' m'
theorem WSim.t {ops : Array Oper} {i : Nat} {o : Oper} {f h : Bool} {c : DReg → DReg} (hg : o.guard = none) (hc : WSim E n ops i o f h c) : TSim E n ops i o f h c := fun next run hn0 k bs r m hf =>
  hc next run hn0 k bs r m (fun ds => by simp only [wantedX, hg]) hf
theorem float_ds (ops : Array Oper) (hn0 : Nat) (tm : Tr V) (m : Mem) (ds : List Nat) (i : Nat) (o : Oper) : floatX E ops hn0 ⟨tm, m, ds⟩ i o = floatX E ops hn0 ⟨tm, m, []⟩ i o := by
  unfold floatX
  have hmn : ∀ b, madeN E.P ⟨tm, m, ds⟩ o b = madeN E.P ⟨tm, m, []⟩ o b := fun b => made_like E.P (fun x _ => by cases x <;> rfl) b
  rw [want_ds ops o tm m m ds [], pureO_ds E tm m ds [] o]
  simp only [hmn]
  rfl
theorem heavy_ds (run : Runs) (hn0 : Nat) (bs : List (Nat × Nat)) (tm : Tr V) (m : Mem) (ds : List Nat) (o : Oper) : heavyX E run hn0 bs ⟨tm, m, ds⟩ o = heavyX E run hn0 bs ⟨tm, m, []⟩ o := by
  unfold heavyX
  rw [op_ds E run tm _ ds [] o]
  rfl
theorem slowD_sim {ops : Array Oper} {i : Nat} {o : Oper} {f h : Bool} {s : Set'} (hs : IsS n o.dst s) : TSim E n ops i o f h (slowD E n ops i o f h s) := fun next run hn0 k bs r m hf => by
  unfold slowD at hf ⊢
  rw [floatF_eq, heavyF_eq] at hf ⊢
  rcases optK_cases (floatX E ops hn0 ⟨tmOf n r, m, []⟩ i o) _ _ with ⟨⟨v, b⟩, h1, h2⟩ | ⟨h1, h2⟩
  · rw [h2] at hf ⊢
    cases f with
    | true =>
      obtain ⟨r', h3, h4⟩ := put_close hs v r fun r' => next run hn0 k (withLook i b bs) r' m
      exact ⟨withLook i b bs, r', m, fun p ds => by simp only [drawP, float_ds, h1, cond_true, h3], h4⟩
    | false =>
      cases h with
      | false => exact absurd rfl hf
      | true =>
        obtain ⟨r', h3, h4⟩ := put_close hs v r fun r' => next run hn0 k bs r' m
        exact ⟨bs, r', m, fun p ds => by simp only [drawP, float_ds, h1, cond_true, cond_false, h3], h4⟩
  · rw [h2] at hf ⊢
    cases h with
    | false => exact absurd rfl hf
    | true =>
      have hf' : optK (heavyX E run hn0 bs ⟨tmOf n r, m, []⟩ o) (fun p => Prod.rec (motive := fun _ => Rz) (fun v m' => s v r fun r' => next run hn0 k bs r' m') p) .fail ≠ Rz.fail := hf
      show ∃ bs' r' m', _ ∧ optK (heavyX E run hn0 bs ⟨tmOf n r, m, []⟩ o) (fun p => Prod.rec (motive := fun _ => Rz) (fun v m' => s v r fun r' => next run hn0 k bs r' m') p) .fail = _
      rcases optK_cases (heavyX E run hn0 bs ⟨tmOf n r, m, []⟩ o) (fun p => Prod.rec (motive := fun _ => Rz) (fun v m' => s v r fun r' => next run hn0 k bs r' m') p) Rz.fail with ⟨⟨v, m'⟩, h3, h4⟩ | ⟨_, h4⟩
      · obtain ⟨r', h5, h6⟩ := put_close hs v r fun r' => next run hn0 k bs r' m'
        exact ⟨bs, r', m', fun p ds => by simp only [drawP, float_ds, h1, heavy_ds, h3, cond_true, h5], h4.trans h6⟩
      · exact absurd h4 hf'
theorem pureD_sim (horc : ∀ i, E.orc i = none) {ops : Array Oper} {i : Nat} {o : Oper} {f h : Bool} {c : Reg → Reg} (ha : isAlloc o = false) (hfh : (f || h) = true) (hc : PSim E n o c ∧ ∀ st, looksAt st o = none) : WSim E n ops i o f h (pureD c) := fun next run hn0 k bs r m hw hf => by
  unfold pureD at hf ⊢
  obtain ⟨v, r', h1, h2, h3⟩ := hc.1 (fun run _ r' m' => next run hn0 k bs r' m') run k r m hf
  refine ⟨bs, r', m, fun p ds => ?_, h3⟩
  have hfl : floatX E ops hn0 ⟨tmOf n r, m, ds⟩ i o = some (v, none) := by
    simp only [floatX, hw ds, ha, cond_true, cond_false, horc, hc.2, h1 ds, Option.map_some]
  simp only [drawP, hfl]
  cases f with
  | true => simp only [cond_true, withLook, h2]
  | false =>
    cases h with
    | true => simp only [cond_true, cond_false, h2]
    | false => cases hfh
theorem loadD_sim (horc : ∀ i, E.orc i = none) {ops : Array Oper} {i : Nat} {h : Bool} {d : Option Tmp} {t : TypeId} {x : Operand} {ty : TypeId} {pos : String} {af : Array Edge} {gu : Option (Nat × Bool)} {p : Part} {gx : Get} {s : Set'}
    (hp : IsP E.P t p) (hx : IsG n x gx) (hs : IsS n d s) : WSim E n ops i ⟨d, .load t x, ty, pos, af, gu⟩ true h (loadD i p gx s) := fun next run hn0 k bs r m hw hf => by
  unfold loadD at hf ⊢
  dsimp -failIfUnchanged only at hf ⊢
  rcases vPtr_cases (gx r) _ _ with ⟨b, o, h1, h2⟩ | h2
  · rw [h2, getR_eq] at hf ⊢
    cases hb : Nat.blt b hn0 with
    | false => rw [hb] at hf; exact absurd rfl hf
    | true =>
      rw [hb] at hf
      have hf' : optK (m.hp.get b) (fun bl => blkCells bl (fun l _ => p l o fun v => s v r fun r' => next run hn0 k ((i, b) :: bs) r' m) .fail) .fail ≠ Rz.fail := hf
      show ∃ bs' r' m', _ ∧ optK (m.hp.get b) (fun bl => blkCells bl (fun l _ => p l o fun v => s v r fun r' => next run hn0 k ((i, b) :: bs) r' m) .fail) .fail = _
      rcases optK_cases (m.hp.get b) _ _ with ⟨bl, h3, h4⟩ | ⟨_, h4⟩
      · rw [h4] at hf' ⊢
        rcases blkCells_cases bl _ _ with ⟨l, e, rfl, h6⟩ | h6
        · rw [h6] at hf' ⊢
          rcases hp l o (fun v => s v r fun r' => next run hn0 k ((i, b) :: bs) r' m) with h7 | ⟨y, h7, h8⟩
          · exact absurd h7 hf'
          · rw [h8]
            obtain ⟨r', h9, h10⟩ := put_close (o := ⟨d, .load t x, ty, pos, af, gu⟩) hs (.s y) r fun r' => next run hn0 k ((i, b) :: bs) r' m
            refine ⟨(i, b) :: bs, r', m, fun q ds => ?_, h10⟩
            have hev : St.evc ⟨tmOf n r, m, ds⟩ x = some (.ptr b o) := evc_of ((hx r m ds).trans (by rw [h1]))
            have hpo : pureO E ⟨tmOf n r, m, ds⟩ ⟨d, .load t x, ty, pos, af, gu⟩ = some (.s y) := pureO_of (load_some hx h1 h3 h7 ds)
            have hla : looksAt ⟨tmOf n r, m, ds⟩ ⟨d, .load t x, ty, pos, af, gu⟩ = some (some b) := by simp only [looksAt, hev]
            have hfl : floatX E ops hn0 ⟨tmOf n r, m, ds⟩ i ⟨d, .load t x, ty, pos, af, gu⟩ = some (.s y, some b) := by
              simp only [floatX, hw ds, isAlloc, cond_true, cond_false, horc, hla, hb, hpo, Option.map_some]
            simp only [drawP, hfl, cond_true, withLook]
            rw [h9]
        · exact absurd h6 hf'
      · exact absurd h4 hf'
  · exact absurd h2 hf
theorem allocD_sim {ops : Array Oper} {i : Nat} {h : Bool} {d : Option Tmp} {t : TypeId} {ty : TypeId} {pos : String} {af : Array Edge} {gu : Option (Nat × Bool)} {s : Set'} (hs : IsS n d s) :
    WSim E n ops i ⟨d, .alloc t, ty, pos, af, gu⟩ true h (allocD (rank ops i) s) := fun next run hn0 k bs r m hw hf => by
  unfold allocD
  obtain ⟨r', h1, h2⟩ := put_close (o := ⟨d, .alloc t, ty, pos, af, gu⟩) hs (.s (.one (.ptr (hn0 + rank ops i) 0))) r fun r' => next run hn0 k bs r' m
  refine ⟨bs, r', m, fun p ds => ?_, h2⟩
  have hfl : floatX E ops hn0 ⟨tmOf n r, m, ds⟩ i ⟨d, .alloc t, ty, pos, af, gu⟩ = some (.s (.one (.ptr (hn0 + rank ops i) 0)), none) := by
    simp only [floatX, hw ds, isAlloc, cond_true, allocV]
  simp only [drawP, hfl, cond_true, withLook, h1]
theorem heavyD_sim (horc : ∀ i, E.orc i = none) {ops : Array Oper} {i : Nat} {o : Oper} {f : Bool} {c : Reg → Reg} (ha : isAlloc o = false) (hc : HSim E n o c) : WSim E n ops i o f true (heavyD n o c) := fun next run hn0 k bs r m hw hf => by
  obtain ⟨hp, hn, wr⟩ := m
  unfold heavyD at hf ⊢
  dsimp -failIfUnchanged only at hf ⊢
  obtain ⟨v, m', r', h1, h2, h3⟩ := hc.1 _ run k r ⟨hp, hn, hn⟩ hf
  rw [h3] at hf ⊢
  obtain ⟨hp', hn', wr'⟩ := m'
  dsimp -failIfUnchanged only at hf ⊢
  have hfl : ∀ ds, floatX E ops hn0 ⟨tmOf n r, ⟨hp, hn, wr⟩, ds⟩ i o = none := fun ds => by
    simp only [floatX, hw ds, ha, cond_true, cond_false, horc, hc.2.2, hc.2.1, Option.map_none]
  have fin : spares hn0 bs ⟨tmOf n r, ⟨hp, hn, wr⟩, []⟩ o ⟨hp', hn', wr'⟩ = true → ∀ p ds, drawP E run ops hn0 (.step i o f true p) bs ⟨tmOf n r, ⟨hp, hn, wr⟩, ds⟩ = drawP E run ops hn0 p bs ⟨tmOf n r', ⟨hp', hn', bif Nat.ble wr wr' then wr else wr'⟩, ds⟩ := fun hsp p ds => by
    have hsp' : spares hn0 bs ⟨tmOf n r, ⟨hp, hn, wr⟩, ds⟩ o ⟨hp', hn', wr'⟩ = true := hsp
    simp only [drawP, hfl ds, cond_true, heavyX, h1 ds, hsp', h2]
  have last : (Bool.rec (motive := fun _ => Rz) (next run hn0 k bs r' ⟨hp', hn', wr'⟩) (next run hn0 k bs r' ⟨hp', hn', wr⟩) (Nat.ble wr wr') : Rz) = next run hn0 k bs r' ⟨hp', hn', bif Nat.ble wr wr' then wr else wr'⟩ := by
    cases Nat.ble wr wr' <;> rfl
  cases hq : (Bool.rec (motive := fun _ => Bool) (Nat.ble hn0 wr') true (noBs bs) : Bool) with
  | true =>
    rw [hq] at hf
    have hsp : spares hn0 bs ⟨tmOf n r, ⟨hp, hn, wr⟩, []⟩ o ⟨hp', hn', wr'⟩ = true := by
      unfold spares
      cases bs with
      | nil => simp
      | cons b bs =>
        have : Nat.ble hn0 wr' = true := hq
        rw [this]; rfl
    exact ⟨bs, r', _, fin hsp, last⟩
  | false =>
    rw [hq] at hf
    cases hsp : spares hn0 bs ⟨tmOf n r, ⟨hp, hn, wr⟩, []⟩ o ⟨hp', hn', wr'⟩ with
    | false => rw [hsp] at hf; exact absurd rfl hf
    | true => exact ⟨bs, r', _, fin hsp, last⟩
theorem compE_yields (hT : TabOk E rows isExt) (hn : n ≤ 128) (ops : Array Oper) (i : Nat) (o : Oper) (f h : Bool) (k : (DReg → DReg) → β) (dd : β) : Yields (compE E n rows isExt ops i o f h k dd) k dd (WSim E n ops i o f h) := by
  unfold compE
  cases ha : isAlloc o with
  | true =>
    simp only [cond_true]
    cases f with
    | false => exact .d
    | true =>
      obtain ⟨d, op, ty, pos, af, gu⟩ := o
      simp only [cond_true]
      split
      · exact (mkD_yields hn d _ _).into (fun s hs => .k (allocD_sim hs)) .d
      · exact .d
  | false =>
    simp only [cond_false]
    cases hfh : (f || h) with
    | false => exact .d
    | true =>
      simp only [cond_true]
      refine (compP_yields hn o _ _).into (fun c hc => .k (pureD_sim hT.orc ha hfh hc)) ?_
      refine (compL_yields hn o _ _).into (fun p hp => ?_) ?_
      · obtain ⟨p, g, s⟩ := p
        dsimp only
        cases f with
        | false => exact .d
        | true =>
          obtain ⟨d, t, x, ty, pos, af, gu, rfl, h1, h2, h3⟩ := hp
          exact .k (loadD_sim hT.orc h1 h2 h3)
      · cases h with
        | false => exact .d
        | true =>
          simp only [cond_true]
          exact (compH_yields hT hn o _ _).into (fun c hc => .k (heavyD_sim hT.orc ha hc)) .d
theorem want_guard {ops : Array Oper} {o : Oper} {j t : Nat} {want : Bool} {g : Get} (hn : n ≤ 128) (hg : o.guard = some (j, want)) (hd : (ops[j]?).bind (·.dst) = some t) (ht : t < n) (hgt : ∀ r, g r = r.get t) {r : R64} {b : Bool}
    (hb : g r = .s (.one (.v (.bool b)))) (m : Mem) (ds : List Nat) : wantedX ops ⟨tmOf n r, m, ds⟩ o = (Bool.rec (motive := fun _ => Bool) (bnot want) want b : Bool) := by
  have h1 : (tmOf n r).get t = some (.s (.one (.v (.bool b)))) := by rw [tmOf_get hn, if_pos ht, ← hgt, hb]
  simp only [wantedX, hg, yieldedX, hd, h1]
  cases b <;> cases want <;> rfl
theorem gdD_sim {ops : Array Oper} {i : Nat} {o : Oper} {f h : Bool} {j t : Nat} {want : Bool} {g : Get} {s : Set'} {c : DReg → DReg} (hn : n ≤ 128) (hg : o.guard = some (j, want)) (hd : (ops[j]?).bind (·.dst) = some t) (ht : t < n) (hgt : ∀ r, g r = r.get t)
    (hfh : (f || h) = true) (hs : IsS n o.dst s) (hc : WSim E n ops i o f h c) : TSim E n ops i o f h (gdD want g s c (slowD E n ops i o f h s)) := fun next run hn0 k bs r m hf => by
  have hslow := slowD_sim (E := E) (ops := ops) (i := i) (f := f) (h := h) hs next run hn0 k bs r m
  unfold gdD at hf ⊢
  rcases vBool_cases (g r) (fun b => Bool.rec (motive := fun _ => Rz) (s (.tup []) r fun r' => next run hn0 k bs r' m) (c next run hn0 k bs r m) (Bool.rec (motive := fun _ => Bool) (bnot want) want b)) (slowD E n ops i o f h s next run hn0 k bs r m) with ⟨b, h1, h2⟩ | h2
  · rw [h2] at hf ⊢
    have hw := fun ds => want_guard hn hg hd ht hgt h1 m ds
    cases hq : (Bool.rec (motive := fun _ => Bool) (bnot want) want b : Bool) with
    | true =>
      rw [hq] at hf
      exact hc next run hn0 k bs r m (fun ds => (hw ds).trans hq) hf
    | false =>
      obtain ⟨r', h3, h4⟩ := put_close hs (.tup []) r fun r' => next run hn0 k bs r' m
      refine ⟨bs, r', m, fun p ds => ?_, h4⟩
      have hfl : floatX E ops hn0 ⟨tmOf n r, m, ds⟩ i o = some (.tup [], none) := by
        simp only [floatX, (hw ds).trans hq, cond_false]
      simp only [drawP, hfl, withLook, h3]
      cases f with
      | true => rfl
      | false => cases h with
        | true => rfl
        | false => cases hfh
  · rw [h2] at hf ⊢; exact hslow hf
theorem compD_yields (hT : TabOk E rows isExt) (hn : n ≤ 128) (ops : Array Oper) (i : Nat) (o : Oper) (f h : Bool) (k : (DReg → DReg) → β) (dd : β) : Yields (compD E n rows isExt ops i o f h k dd) k dd (TSim E n ops i o f h) := by
  unfold compD
  have slow : Yields (mkD n o.dst (fun s => k (slowD E n ops i o f h s)) dd) k dd (TSim E n ops i o f h) := (mkD_yields hn _ _ _).into (fun s hs => .k (slowD_sim hs)) .d
  dsimp only
  split
  · rename_i j want hg
    split
    · rename_i t hd
      cases hb : (Nat.blt t n && (f || h)) with
      | false => exact slow
      | true =>
        simp only [Bool.and_eq_true] at hb
        have ht := blt_t hb.1
        simp only [cond_true]
        obtain ⟨g, hgt, hge⟩ := mkG_spec (i := t) (by omega) (fun g => mkD n o.dst (fun s => compE E n rows isExt ops i o f h (fun c => k (gdD want g s c (slowD E n ops i o f h s))) (mkD n o.dst (fun s => k (slowD E n ops i o f h s)) dd)) dd)
        rw [hge]
        refine (mkD_yields hn _ _ _).into (fun s hs => ?_) .d
        exact (compE_yields hT hn ops i o f h _ _).into (fun c hc => .k (gdD_sim hn hg hd ht hgt hb.2 hs hc)) slow
    · exact slow
  · rename_i hg
    exact (compE_yields hT hn ops i o f h _ _).into (fun c hc => .k (hc.t hg)) slow
theorem compPl_yields (hT : TabOk E rows isExt) (hn : n ≤ 128) (ops : Array Oper) : ∀ (p : Plan) (k : DReg → β) (dd : β), Yields (compPl E n rows isExt ops p k dd) k dd (DSim E n ops p)
  | .done, k, dd => .k fun run hn0 k bs r m hf => ⟨r, m, fun _ => rfl, rfl⟩
  | .fail, k, dd => .d
  | .step i o f h p, k, dd => by
    unfold compPl
    refine (compD_yields hT hn ops i o f h _ _).into (fun c hc => ?_) .d
    refine (compPl_yields hT hn ops p _ _).into (fun next hnx => ?_) .d
    refine .k fun run hn0 k bs r m hf => ?_
    obtain ⟨bs', r', m', h1, h2⟩ := hc next run hn0 k bs r m hf
    rw [h2] at hf
    obtain ⟨r'', m'', h3, h4⟩ := hnx run hn0 k bs' r' m' hf
    exact ⟨r'', m'', fun ds => (h1 p ds).trans (h3 ds), h2.trans h4⟩
theorem aside_none {P : Program} : ∀ {l : List Oper} (m : Mem), l.any isAlloc = false → aside P l m = some m
  | [], m, _ => rfl
  | o :: l, m, h => by
    simp only [List.any_cons, Bool.or_eq_false_iff] at h
    simp only [aside, h.1, cond_false]
    exact aside_none m h.2
end
end Go.Ry
