/-
  THE RUNNER IS SOUND, part 3: every operation that only reckons or reads.
-/
import Derived.Test.YteaglhkacfcgfaaRxC
namespace Go.Rx
open Go Go.RowKit

section
variable {P : Program}
theorem intBin_sound {op : BinOp} {k : IntKind} {a b : Int} {v : Value} (hs : isShift op = false) (h : intBin op k a b = some v) (t : TypeId) (w : World) :
    (binOp op t (.int k a) (.int k b)).run P w = .ok v w ∧ v.oneCell' = true := by
  cases op <;> simp only [intBin, isShift] at h hs <;> first
    | (cases h; done)
    | (cases hs; done)
    | (simp only [Option.some.injEq] at h; subst h; exact ⟨by simp [binOp, Op.intArith, Op.intBits, Op.intCmp], rfl⟩)
    | (split at h
       · cases h
       · rename_i hb
         simp only [Option.some.injEq] at h; subst h
         exact ⟨by simp [binOp, Op.intDiv, hb], rfl⟩)
theorem shiftX_sound {op : BinOp} {k k' : IntKind} {a b : Int} {v : Value} (h : shiftX op k a b = some v) (t : TypeId) (w : World) :
    (binOp op t (.int k a) (.int k' b)).run P w = .ok v w ∧ v.oneCell' = true := by
  unfold shiftX at h
  split at h
  · cases h
  · rename_i hb
    cases op <;> simp only at h <;> first
      | (cases h; done)
      | (simp only [Option.some.injEq] at h; subst h; exact ⟨by simp [binOp, Op.shift, hb], rfl⟩)

theorem All2.cons_inv {α β : Type} {R : α → β → Prop} {a : α} {l : List α} {ys : List β} (h : All2 R (a :: l) ys) : ∃ b m, ys = b :: m ∧ R a b ∧ All2 R l m := by
  cases h with | cons h1 h2 => exact ⟨_, _, rfl, h1, h2⟩
theorem DC.v_inv {ρ : Loc'} {x y : Value} (h : DC ρ (.v x) y) : y = x := by cases h; rfl
theorem rowEq_int {ρ : Loc'} {e : TypeId} {k0 : IntKind} (he : P.underlying e = some (.int k0)) (hs : sizeX P e = some 1) (d : Nat) (w : World) :
    ∀ (l l' : List C) (r : Bool) (xs ys pre pre' : List Value), rowEq l l' = some r → All2 (DC ρ) l xs → All2 (DC ρ) l' ys → pre.length = pre'.length →
      (forIn (m := Sem) (List.range' pre.length l.length) ((none, ()) : Option Bool × Unit) (fun i (_ : Option Bool × Unit) => do
        let x ← part e (pre ++ xs).toArray (i * 1)
        let y ← part e (pre' ++ ys).toArray (i * 1)
        let r ← Op.equalIn (d + 1) e x y
        if (!r) = true then pure (ForInStep.done (some false, ())) else pure (ForInStep.yield (none, ())))).run P w = .ok (if r then none else some false, ()) w
  | [], [], r, xs, ys, pre, pre', h, hx, hy, hl => by
    simp [rowEq] at h; subst h; simp
  | [], _ :: _, r, xs, ys, pre, pre', h, hx, hy, hl => by simp [rowEq] at h
  | c :: l, l', r, xs, ys, pre, pre', h, hx, hy, hl => by
    cases l' with
    | nil => cases c with
      | v x => cases x <;> simp [rowEq] at h
      | _ => simp [rowEq] at h
    | cons c' l' =>
      have hagg : isAggX P e = some false := by simp [isAggX, he]
      cases c with
      | v x =>
        cases x with
        | int k a =>
          cases c' with
          | v x' =>
            cases x' with
            | int k' b =>
              simp only [rowEq] at h
              split at h
              · rename_i hk
                subst hk
                cases hr : rowEq l l' with
                | none => simp [hr] at h
                | some r1 =>
                  simp [hr] at h
                  obtain ⟨x1, xs', rfl, hx1, hx2⟩ := hx.cons_inv
                  obtain ⟨y1, ys', rfl, hy1, hy2⟩ := hy.cons_inv
                  have := hx1.v_inv; subst this
                  have := hy1.v_inv; subst this
                  have ih := rowEq_int he hs d w l l' r1 xs' ys' (pre ++ [.int k a]) (pre' ++ [.int k b]) hr hx2 hy2 (by simp [hl])
                  have p1 : (part e (pre ++ Value.int k a :: xs').toArray (pre.length * 1)).run P w = .ok (.int k a) w := by
                    simp [part, run_isAggX hagg]
                  have p2 : (part e (pre' ++ Value.int k b :: ys').toArray (pre.length * 1)).run P w = .ok (.int k b) w := by
                    simp [part, run_isAggX hagg, hl]
                  simp only [List.length_cons, List.range'_succ, List.forIn_cons, Sem.run_bind, p1, p2, Result.andThen_ok, run_equalIn_int w d e k k0 a b he, Sem.run_ite, Sem.run_pure]
                  subst h
                  cases hab : (a == b) with
                  | false => simp
                  | true =>
                    simp only [Bool.not_true, Bool.false_eq_true, if_false, Bool.true_and, Result.andThen_ok]
                    simpa using ih
              · cases h
            | _ => simp [rowEq] at h
          | _ => simp [rowEq] at h
        | _ => simp [rowEq] at h
      | _ => simp [rowEq] at h
termination_by l => l.length

theorem depth_two (P : Program) : ∃ k, P.depth = k + 2 := ⟨_, rfl⟩
theorem equalIn_array {ρ : Loc'} {t e : TypeId} {n : Nat} {k0 : IntKind} {l l' : List C} {r : Bool} (hu : P.underlying t = some (.array n e)) (hue : P.underlying e = some (.int k0)) (hs : sizeX P e = some 1)
    (h : rowEq l l' = some r) (h1 : l.length = n) {xs ys : List Value} (hx : All2 (DC ρ) l xs) (hy : All2 (DC ρ) l' ys) (d : Nat) (w : World) :
    (Op.equalIn (d + 2) t (.agg xs.toArray) (.agg ys.toArray)).run P w = .ok r w := by
  have key := rowEq_int (ρ := ρ) hue hs d w l l' r xs ys [] [] h hx hy rfl
  simp only [List.nil_append, List.length_nil, h1] at key
  rw [Op.equalIn]
  simp only [Sem.run_bind, run_underlying hu, Result.andThen_ok, run_sizeX hs]
  rw [Std.Legacy.Range.forIn_eq_forIn_range']
  have e1 : (Std.Legacy.Range.size [:n]) = n := by simp [Std.Legacy.Range.size]
  rw [e1]
  refine (congrArg (fun r => Result.andThen r _) key).trans ?_
  cases r <;> rfl
theorem aggEq_sound {ρ : Loc'} {t : TypeId} {l l' : List C} {r : Bool} (h : aggEq P t l l' = some r) {xs ys : List Value} (hx : All2 (DC ρ) l xs) (hy : All2 (DC ρ) l' ys) (w : World) :
    (Op.equalIn 10000 t (.agg xs.toArray) (.agg ys.toArray)).run P w = .ok r w ∧ P.eqGuardType P.depth t = false := by
  unfold aggEq at h
  cases hu : P.underlying t with
  | none => simp [hu] at h
  | some d0 =>
    cases d0 with
    | array n e =>
      cases hue : P.underlying e with
      | none => simp [hu, hue] at h
      | some d1 =>
        cases d1 with
        | int k0 =>
          simp only [hu, hue] at h
          split at h
          · rename_i hk hs
            cases hb : Nat.beq l.length n && Nat.beq l'.length n with
            | false => simp [hb] at h
            | true =>
              simp only [hb, cond_true] at h
              simp only [Bool.and_eq_true] at hb
              refine ⟨equalIn_array hu hue hs h (beq_t hb.1) hx hy 9998 w, ?_⟩
              obtain ⟨k, hk⟩ := depth_two P
              rw [hk]
              simp [Program.eqGuardType, hu, hue]
          · cases h
        | _ => simp [hu, hue] at h
    | _ => simp [hu] at h
end
end Go.Rx
