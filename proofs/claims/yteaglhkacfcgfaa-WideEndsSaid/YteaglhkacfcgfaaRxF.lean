/-
  THE RUNNER IS SOUND, part 4: 'pureX'.
-/
import Derived.Test.YteaglhkacfcgfaaRxE
namespace Go.Rx
open Go Go.RowKit

section
variable {P : Program} {W : World} {ρ : Loc'} {st : St} {a : Act} {w : World}

theorem D1.one_inv {c : C} {x : Value} (h : D1 ρ (.one c) x) : DC ρ c x := by cases h; assumption
theorem D1.agg_inv {l : List C} {x : Value} (h : D1 ρ (.agg l) x) : ∃ xs : List Value, x = .agg xs.toArray ∧ All2 (DC ρ) l xs := by cases h; exact ⟨_, rfl, by assumption⟩
theorem DC.ptr_inv {b o : Nat} {x : Value} (h : DC ρ (.ptr b o) x) : ∃ r, x = .pointer (some ⟨r, o, none⟩) ∧ ρ b = some r := by cases h; exact ⟨_, rfl, by assumption⟩
theorem DC.sl_inv {b o n c : Nat} {x : Value} (h : DC ρ (.sl b o n c) x) : ∃ r, x = .slice (some ⟨r, o, none⟩) n c ∧ ρ b = some r := by cases h; exact ⟨_, rfl, by assumption⟩
theorem DC.fn_inv {f : FuncId} {caps : List Nat} {x : Value} (h : DC ρ (.fn f caps) x) : ∃ rs : List Nat, x = .func (.func f) #[] (rs.map fun r => Value.pointer (some ⟨r, 0, none⟩)).toArray ∧ All2 (fun b r => ρ b = some r) caps rs := by cases h; exact ⟨_, rfl, by assumption⟩
theorem DV.tup_inv {l : List V1} {x : Value} (h : DV ρ (.tup l) x) : ∃ xs : List Value, x = .tuple xs.toArray ∧ All2 (D1 ρ) l xs := by cases h; exact ⟨_, rfl, by assumption⟩
theorem DC.mp_inv {b : Nat} {x : Value} (h : DC ρ (.mp b) x) : ∃ r, x = .map (some r) ∧ ρ b = some r := by cases h; exact ⟨_, rfl, by assumption⟩

theorem bin_sound {op : BinOp} {t : TypeId} {y y' : V1} {v : Value} (hv : binX P op t y y' = some v) {x x' : Value} (hy : D1 ρ y x) (hy' : D1 ρ y' x') (ox oy : Operand) (w : World) :
    (do eqGuard op t ox oy x x'; binOp op t x x').run P w = .ok v w ∧ v.oneCell' = true := by
  unfold binX at hv
  split at hv
  · rename_i k i k' j
    have := hy.one_inv.v_inv; subst this
    have := hy'.one_inv.v_inv; subst this
    simp only [eqGuard_at_int, pure_bind]
    cases hs : isShift op with
    | true => simp only [hs, cond_true] at hv; exact shiftX_sound hv t w
    | false =>
      simp only [hs, cond_false] at hv
      split at hv
      · rename_i hk; subst hk; exact intBin_sound hs hv t w
      · cases hv
  · rename_i i j
    have := hy.one_inv.v_inv; subst this
    have := hy'.one_inv.v_inv; subst this
    simp only [eqGuard_at_bool, pure_bind]
    split at hv
    · rename_i hu; simp only [Option.some.injEq] at hv; subst hv; exact ⟨by simp [binOp, run_equal_bool w t i j hu], rfl⟩
    · rename_i hu; simp only [Option.some.injEq] at hv; subst hv; exact ⟨by simp [binOp, run_equal_bool w t i j hu], rfl⟩
    · cases hv
  · rename_i i j
    have := hy.one_inv.v_inv; subst this
    have := hy'.one_inv.v_inv; subst this
    simp only [eqGuard_at_string, pure_bind]
    split at hv
    · simp only [Option.some.injEq] at hv; subst hv; exact ⟨by simp [binOp, Op.stringOp], rfl⟩
    · simp only [Option.some.injEq] at hv; subst hv; exact ⟨by simp [binOp, Op.stringOp], rfl⟩
    · cases hb : Nat.ble (i.size + j.size) 9223372036854775807 with
      | false => simp [hb] at hv
      | true =>
        simp only [hb, cond_true, Option.some.injEq] at hv; subst hv
        have hle := ble_t hb
        refine ⟨?_, rfl⟩
        simp only [binOp, Op.stringOp, IntKind.max_i64]
        rw [if_neg (by omega)]
        rfl
    · cases hv
  · rename_i l l'
    obtain ⟨xs, rfl, hx⟩ := hy.agg_inv
    obtain ⟨xs', rfl, hx'⟩ := hy'.agg_inv
    split at hv
    · simp only [Option.map_eq_some_iff] at hv
      obtain ⟨r, hr, rfl⟩ := hv
      obtain ⟨h1, h2⟩ := aggEq_sound hr hx hx' w
      refine ⟨?_, rfl⟩
      rw [Sem.run_bind, run_eqGuard_agg w .eql t ox oy _ _ h2, Result.andThen_ok, run_eql_struct, h1]
      rfl
    · simp only [Option.map_eq_some_iff] at hv
      obtain ⟨r, hr, rfl⟩ := hv
      obtain ⟨h1, h2⟩ := aggEq_sound hr hx hx' w
      refine ⟨?_, rfl⟩
      rw [Sem.run_bind, run_eqGuard_agg w .neq t ox oy _ _ h2, Result.andThen_ok, run_neq_struct, h1]
      rfl
    · cases hv
  · cases hv

theorem un_sound {op : UnOp} {y : V1} {v : Value} (hv : unX op y = some v) {x : Value} (hy : D1 ρ y x) (w : World) : (Op.unary op x).run P w = .ok v w ∧ v.oneCell' = true := by
  unfold unX at hv
  split at hv
  · have := hy.one_inv.v_inv; subst this
    simp only [Option.some.injEq] at hv; subst hv
    exact ⟨by simp [Op.unary, Op.intArith], rfl⟩
  · have := hy.one_inv.v_inv; subst this
    simp only [Option.some.injEq] at hv; subst hv
    exact ⟨by simp [Op.unary], rfl⟩
  · cases hv

theorem conv_sound {s d : TypeId} {y y' : V1} (hv : convX P s d y = some y') {x : Value} (hy : D1 ρ y x) (w : World) : ∃ x', D1 ρ y' x' ∧ (convert s d x).run P w = .ok x' w := by
  unfold convX at hv
  split at hv
  · rename_i ts k k' n hs hd
    have := hy.one_inv.v_inv; subst this
    simp only [Option.some.injEq] at hv; subst hv
    refine ⟨_, .one (.v rfl), ?_⟩
    have hi := run_convert_int (P := P) w s d k' n (by simp [hs]) (by simp [Program.intKind, hd])
    simpa [Program.intKind, hd] using hi
  · cases hv

theorem optInt_sound (h : StRel W ρ st a w) {x : Option Operand} {i : Option Int} (hx : optInt st x = some i) :
    match i with
    | none => x = none
    | some i => ∃ y k, x = some y ∧ a.eval y = .int k i := by
  cases x with
  | none => simp only [optInt, Option.some.injEq] at hx; subst hx; rfl
  | some y =>
    simp only [optInt] at hx
    split at hx
    · rename_i k j hj
      simp only [Option.some.injEq] at hx; subst hx
      exact ⟨y, k, rfl, (evc_sound h hj).v_inv⟩
    · cases hx

theorem sliceBound_sound {k : IntKind} {i : Int} {y : Nat} (hi : 0 ≤ i ∧ i ≤ y) (c : BoundsCode) (w : World) : (Instr.sliceBound (.int k i) y c).run P w = .ok i.toNat w := by
  simp [Instr.sliceBound, asIntOf, hi]

theorem bounds_sound (h : StRel W ρ st a w) {lo hi : Option Operand} {ilo ihi : Option Int} (h1 : optInt st lo = some ilo) (h2 : optInt st hi = some ihi) {len cap l u : Nat} (hb : boundsX len cap ilo ihi = some (l, u)) (isS : Bool) (w : World) :
    (Instr.sliceBounds isS len cap (lo.map a.eval) (hi.map a.eval) none).run P w = .ok (l, u, cap) w := by
  have s1 := optInt_sound h h1
  have s2 := optInt_sound h h2
  unfold boundsX at hb
  cases ihi with
  | none =>
    simp only at s2; subst s2
    simp only at hb
    cases ilo with
    | none =>
      simp only at s1; subst s1
      simp only [Option.some.injEq, Prod.mk.injEq] at hb
      obtain ⟨rfl, rfl⟩ := hb
      simp [Instr.sliceBounds]
    | some i =>
      obtain ⟨y, k, rfl, he⟩ := s1
      simp only at hb
      split at hb
      · rename_i hi'
        simp only [Option.some.injEq, Prod.mk.injEq] at hb
        obtain ⟨rfl, rfl⟩ := hb
        simp [Instr.sliceBounds, he, sliceBound_sound hi']
      · cases hb
  | some j =>
    obtain ⟨z, k', rfl, he'⟩ := s2
    simp only at hb
    by_cases hj : 0 ≤ j ∧ j ≤ (cap : Int)
    · simp only [hj, and_self, if_true] at hb
      cases ilo with
      | none =>
        simp only at s1; subst s1
        simp only [Option.some.injEq, Prod.mk.injEq] at hb
        obtain ⟨rfl, rfl⟩ := hb
        simp [Instr.sliceBounds, he', sliceBound_sound hj]
      | some i =>
        obtain ⟨y, k, rfl, he⟩ := s1
        simp only at hb
        split at hb
        · rename_i hi'
          simp only [Option.some.injEq, Prod.mk.injEq] at hb
          obtain ⟨rfl, rfl⟩ := hb
          simp [Instr.sliceBounds, he, he', sliceBound_sound hj, sliceBound_sound hi']
        · cases hb
    · simp [hj] at hb

theorem add_if (r o n : Nat) (c : Prop) [Decidable c] : (if c then (⟨r, o, none⟩ : Addr) else (⟨r, o, none⟩ : Addr).add n) = ⟨r, if c then o else o + n, none⟩ := by
  split <;> simp [add_none]

theorem slice_sound (h : StRel W ρ st a w) {t : TypeId} {x : Operand} {lo hi : Option Operand} {y : V1} (hv : sliceX P st t x lo hi = some y) :
    ∃ z, D1 ρ y z ∧ (Instr.sliceAt t (a.eval x) (lo.map a.eval) (hi.map a.eval) none).run P w = .ok z w := by
  unfold sliceX at hv
  cases h1 : optInt st lo with
  | none => simp [h1] at hv
  | some ilo =>
    cases h2 : optInt st hi with
    | none => simp [h1, h2] at hv
    | some ihi =>
      cases h3 : st.evc x with
      | none => simp [h1, h2, h3] at hv
      | some c =>
        simp only [h1, h2, h3] at hv
        have hc := evc_sound h h3
        split at hv
        · rename_i n e b o hu
          obtain ⟨r, hr, hb⟩ := hc.ptr_inv
          split at hv
          · rename_i l u s hbd hs
            simp only [Option.some.injEq] at hv; subst hv
            have hB := bounds_sound (P := P) h h1 h2 hbd false w
            refine ⟨_, .one (.sl hb), ?_⟩
            simp [Instr.sliceAt, run_underlying hu, hr, Instr.sureAddr, hB, run_sizeX hs, add_if]
          · cases hv
        · rename_i e b o len cap hu
          obtain ⟨r, hr, hb⟩ := hc.sl_inv
          split at hv
          · rename_i l u s hbd hs
            simp only [Option.some.injEq] at hv; subst hv
            have hB := bounds_sound (P := P) h h1 h2 hbd true w
            refine ⟨_, .one (.sl hb), ?_⟩
            have hif : (if cap = l then some (⟨r, o, none⟩ : Addr) else some ((⟨r, o, none⟩ : Addr).add (l * s))) = some ⟨r, if cap = l then o else o + l * s, none⟩ := by
              split <;> simp [add_none]
            simp [Instr.sliceAt, Instr.slice, run_underlying hu, hr, hB, run_sizeX hs, hif]
          · cases hv
        · rename_i s hu
          have := hc.v_inv
          split at hv
          · rename_i l u hbd
            simp only [Option.some.injEq] at hv; subst hv
            have hB := bounds_sound (P := P) h h1 h2 hbd false w
            refine ⟨_, .one (.v rfl), ?_⟩
            simp [Instr.sliceAt, Instr.slice, run_underlying hu, this, hB]
          · cases hv
        · cases hv

theorem caps_sound (h : StRel W ρ st a w) : ∀ {cs : List Operand} {l : List Nat}, pureX.capsX st cs = some l → ∃ rs : List Nat, All2 (fun b r => ρ b = some r) l rs ∧ cs.map a.eval = rs.map fun r => Value.pointer (some ⟨r, 0, none⟩)
  | [], l, hl => by simp [pureX.capsX] at hl; subst hl; exact ⟨[], .nil, rfl⟩
  | x :: r, l, hl => by
    simp only [pureX.capsX] at hl
    split at hl
    · rename_i b l' h1 h2
      simp only [Option.some.injEq] at hl; subst hl
      obtain ⟨q, hq, hb⟩ := (evc_sound h h1).ptr_inv
      obtain ⟨rs, h3, h4⟩ := caps_sound h h2
      exact ⟨q :: rs, .cons hb h3, by simp [hq, h4]⟩
    · cases hl

theorem look_list {kk : IntKind} {i : Int} {kd : IntKind} : ∀ {l : List (Value × C)} {es : List MapEntry} {c : C} (n : Nat), All2 (fun p (m : MapEntry) => p.1 = m.key ∧ DC ρ p.2 m.val) l es →
    l.findSome? (findInt kk i) = some c →
    (∀ p ∈ l, ∃ j, p.1 = Value.int kk j) → ∃ k x, DC ρ c x ∧ Instr.findNow (.int kd) (.int kk i) es n = some (some (k, x))
  | [], _, _, n, .nil, h, _ => by simp at h
  | (q, c0) :: l, m :: es, c, n, .cons hm hrest, h, hall => by
    obtain ⟨j, hj⟩ := hall (q, c0) (by simp)
    simp only at hj
    subst hj
    obtain ⟨hk, hd⟩ := hm
    simp only at hk hd
    simp only [List.findSome?_cons, findInt] at h
    by_cases hji : j = i
    · subst hji
      simp at h; subst h
      exact ⟨n, m.val, hd, by simp [Instr.findNow, ← hk, Instr.sameNow]⟩
    · simp only [true_and, hji, if_false] at h
      obtain ⟨k, x, h1, h2⟩ := look_list (kd := kd) (n + 1) hrest (by simpa [findInt] using h) (fun p hp => hall p (by simp [hp]))
      refine ⟨k, x, h1, ?_⟩
      have : (i == j) = false := by simp; omega
      simp [Instr.findNow, ← hk, Instr.sameNow, this, h2]
end
end Go.Rx
