/-
  THE RUNNER IS SOUND, part 5: 'pureX' whole.
-/
import Derived.Test.YteaglhkacfcgfaaRxF
namespace Go.Rx
open Go Go.RowKit

section
variable {P : Program} {W : World} {ρ : Loc'} {st : St} {a : Act} {w : World}

theorem len_sound {t : TypeId} {y : V1} {v : Value} (hv : lenX P t y = some v) {x : Value} (hy : D1 ρ y x) {args : Array Value} (ty : TypeId) (h0 : args[0]? = some x) (ts : Array TypeId) (h1 : ts[0]? = some t) (w : World) :
    (Builtin.len_ ts ty args).run P w = .ok v w ∧ v.oneCell' = true := by
  unfold lenX at hv
  split at hv
  · rename_i s hu
    have := hy.one_inv.v_inv; subst this
    simp only [Option.some.injEq] at hv; subst hv
    exact ⟨by simp [Builtin.len_, h0, h1, run_underlying hu, goInt], rfl⟩
  · rename_i n e hu
    simp only [Option.some.injEq] at hv; subst hv
    exact ⟨by simp [Builtin.len_, h0, h1, run_underlying hu, goInt], rfl⟩
  · rename_i e b o n c hu
    obtain ⟨r, rfl, _⟩ := hy.one_inv.sl_inv
    simp only [Option.some.injEq] at hv; subst hv
    exact ⟨by simp [Builtin.len_, h0, h1, run_underlying hu, goInt], rfl⟩
  · rename_i e b n c hu
    have := hy.one_inv.v_inv; subst this
    simp only [Option.some.injEq] at hv; subst hv
    exact ⟨by simp [Builtin.len_, h0, h1, run_underlying hu, goInt], rfl⟩
  · cases hv

theorem build_arr {t e : TypeId} {s : Nat} {z : List C} {ps : Array (Nat × Operand)} {l : List (Nat × V1)} {cells : List C} (h : StRel W ρ st a w) (hp : partsX st ps.toList = some l) (hz : zeroX P t = some z)
    (hu : P.underlying t = some (.array s e)) {sz : Nat} (hs : sizeX P e = some sz) (hf : fillX (fun i => some (i * sz, sz)) z l = some cells) :
    ∃ ys, All2 (DC ρ) cells ys ∧ (Instr.build t (ps.map fun (i, x) => (i, a.eval x))).run P w = .ok (.agg ys.toArray) w := by
  obtain ⟨zv, hz1, hz2⟩ := run_zeroX hz w ρ
  obtain ⟨ys, h1, h2⟩ := fill_sound (place := fun i => some (i * sz, sz)) (fun _ _ hq => hq) (parts_sound h hp) hz2 hf
  refine ⟨ys, h2, ?_⟩
  have e1 : (ps.map fun (x : Nat × Operand) => (x.1, a.eval x.2)).toList = ps.toList.map fun (i, x) => (i, a.eval x) := by simp
  simp only [Array.toArray_toList] at h1
  simp [Instr.build, hz1, run_underlying hu, run_sizeX hs, h1]

theorem mapM_places : ∀ (fs : List Field) (_acc : List (Nat × Nat)), (∀ f ∈ fs, ∃ s, sizeX P f.type = some s) → ∀ w, ∃ pl : List (Nat × Nat), (fs.mapM (fun (f : Field) => (do pure (f.offset, ← sizeOf f.type) : Sem (Nat × Nat)))).run P w = .ok pl w ∧
    ∀ (i : Nat) (f : Field) (s : Nat), fs[i]? = some f → sizeX P f.type = some s → pl[i]? = some (f.offset, s)
  | [], _, _, w => ⟨[], by simp, by simp⟩
  | f :: fs, acc, h, w => by
    obtain ⟨s, hs⟩ := h f (by simp)
    obtain ⟨pl, h1, h2⟩ := mapM_places fs [] (fun g hg => h g (by simp [hg])) w
    refine ⟨(f.offset, s) :: pl, ?_, ?_⟩
    · simp only [List.mapM_cons, Sem.run_bind, run_sizeX hs, Result.andThen_ok, Sem.run_pure, h1]
    · intro i g s' hi hs'
      cases i with
      | zero => simp at hi; subst hi; rw [hs] at hs'; cases hs'; rfl
      | succ i => simpa using h2 i g s' (by simpa using hi) hs'

theorem build_struct {t : TypeId} {fs : Array Field} {z : List C} {ps : Array (Nat × Operand)} {l : List (Nat × V1)} {cells : List C} (h : StRel W ρ st a w) (hp : partsX st ps.toList = some l) (hz : zeroX P t = some z)
    (hu : P.underlying t = some (.struct fs)) (hall : ∀ f ∈ fs.toList, ∃ s, sizeX P f.type = some s)
    (hf : fillX (placeX P fs) z l = some cells) :
    ∃ ys, All2 (DC ρ) cells ys ∧ (Instr.build t (ps.map fun (i, x) => (i, a.eval x))).run P w = .ok (.agg ys.toArray) w := by
  obtain ⟨zv, hz1, hz2⟩ := run_zeroX hz w ρ
  obtain ⟨pl, hp1, hp2⟩ := mapM_places (P := P) fs.toList [] hall w
  obtain ⟨ys, h1, h2⟩ := fill_sound (place := fun i => pl.toArray[i]?) (fun i q hq => by
    unfold placeX at hq
    split at hq
    · rename_i f hfi
      simp only [Option.map_eq_some_iff] at hq
      obtain ⟨s, hs, rfl⟩ := hq
      simpa using hp2 i f s (by simpa using hfi) hs
    · cases hq) (parts_sound h hp) hz2 hf
  refine ⟨ys, h2, ?_⟩
  have e1 : (ps.map fun (x : Nat × Operand) => (x.1, a.eval x.2)).toList = ps.toList.map fun (i, x) => (i, a.eval x) := by simp
  simp only [Array.toArray_toList] at h1
  have h1' : Instr.fill (fun i => pl[i]?) zv.cells (ps.toList.map fun (x : Nat × Operand) => (x.1, a.eval x.2)) = some ys.toArray := by simpa using h1
  simp only [bind_pure_comp] at hp1
  simp [Instr.build, hz1, run_underlying hu, Array.mapM_eq_mapM_toList, hp1, h1']

theorem checkKey_int (n : Nat) (b : Bool) {kt : TypeId} {kd kk : IntKind} {i : Int} (h : P.underlying kt = some (.int kd)) : (Instr.checkKey b (n + 1) kt (.int kk i)).run P w = .ok () w := by
  simp [Instr.checkKey, run_underlying h]

theorem pure_sound (h : StRel W ρ st a w) {o : Oper} {v : V} (hv : pureX P st o = some v) : ∃ x, DV ρ v x ∧ (execOp a.eval o).run P w = .ok (.value x) w := by
  obtain ⟨dst, op, type, pos, after, guard⟩ := o
  unfold pureX at hv
  simp only at hv
  split at hv
  case h_1 x => exact ⟨_, eval_sound h hv, by simp [execOp]⟩
  case h_2 x => exact ⟨_, eval_sound h hv, by simp [execOp]⟩
  case h_3 c y z =>
    split at hv
    · rename_i t hc
      have hb := (evc_sound h hc).v_inv
      cases t with
      | true => exact ⟨_, eval_sound h hv, by simp [execOp, hb, asBool]⟩
      | false => exact ⟨_, eval_sound h hv, by simp [execOp, hb, asBool]⟩
    · cases hv
  case h_4 t ps =>
    split at hv
    · rename_i l z n e hp hz hu
      split at hv
      · rename_i s hs
        simp only [Option.map_eq_some_iff] at hv
        obtain ⟨cells, hf, rfl⟩ := hv
        obtain ⟨ys, h1, h2⟩ := build_arr h hp hz hu hs hf
        exact ⟨_, .s (.agg h1), by simp [execOp, h2]⟩
      · cases hv
    · rename_i l z fs hp hz hu
      cases hall : fs.toList.all (fun f => (sizeX P f.type).isSome) with
      | false => simp [hall] at hv
      | true =>
        simp only [hall, cond_true, Option.map_eq_some_iff] at hv
        obtain ⟨cells, hf, rfl⟩ := hv
        have hall' : ∀ f ∈ fs.toList, ∃ s, sizeX P f.type = some s := fun f hf => Option.isSome_iff_exists.1 (List.all_eq_true.1 hall f hf)
        obtain ⟨ys, h1, h2⟩ := build_struct h hp hz hu hall' hf
        exact ⟨_, .s (.agg h1), by simp [execOp, h2]⟩
    · cases hv
  case h_5 t x =>
    split at hv
    · rename_i b o hb
      obtain ⟨r, hr, hρ⟩ := (evc_sound h hb).ptr_inv
      simp only [Option.map_eq_some_iff] at hv
      obtain ⟨y, hy, rfl⟩ := hv
      obtain ⟨z, h1, h2⟩ := load_sound h.mem rfl hy hρ
      exact ⟨z, .s h1, by simp [execOp, Instr.loadAt, hr, Instr.sureAddr, h2]⟩
    · cases hv
  case h_6 x =>
    split at hv
    · rename_i b o hb
      have hd := evc_sound h hb
      obtain ⟨r, hr, hρ⟩ := hd.ptr_inv
      simp only [Option.some.injEq] at hv; subst hv
      exact ⟨_, .s (.one (hr ▸ hd)), by simp [execOp, hr]⟩
    · rename_i f l hb
      have hd := evc_sound h hb
      simp only [Option.some.injEq] at hv; subst hv
      obtain ⟨rs, hx, _⟩ := hd.fn_inv
      exact ⟨_, .s (.one hd), by simp [execOp, hx]⟩
    · cases hv
  case h_7 op t x y ty =>
    split at hv
    · rename_i p q hp hq
      simp only [Option.map_eq_some_iff] at hv
      obtain ⟨z, hz, rfl⟩ := hv
      obtain ⟨h1, h2⟩ := bin_sound hz (ev1_sound h hp) (ev1_sound h hq) x y w
      exact ⟨z, .s (.one (.v h2)), by simp only [execOp]; rw [Sem.run_bind, h1]; rfl⟩
    · cases hv
  case h_8 op t x =>
    split at hv
    · rename_i p hp
      simp only [Option.map_eq_some_iff] at hv
      obtain ⟨z, hz, rfl⟩ := hv
      obtain ⟨h1, h2⟩ := un_sound hz (ev1_sound h hp) w (P := P)
      exact ⟨z, .s (.one (.v h2)), by simp [execOp, h1]⟩
    · cases hv
  case h_9 s d x =>
    split at hv
    · rename_i p hp
      simp only [Option.map_eq_some_iff] at hv
      obtain ⟨z, hz, rfl⟩ := hv
      obtain ⟨x', h1, h2⟩ := conv_sound hz (ev1_sound h hp) w
      exact ⟨x', .s h1, by simp [execOp, h2]⟩
    · cases hv
  case h_10 f fst cs =>
    cases hb : Nat.beq fst.size 0 with
    | false => simp [hb] at hv
    | true =>
      simp only [hb, cond_true, Option.map_eq_some_iff] at hv
      obtain ⟨l, hl, rfl⟩ := hv
      obtain ⟨rs, h1, h2⟩ := caps_sound h hl
      have hfst : fst = #[] := by have := beq_t hb; exact Array.eq_empty_of_size_eq_zero this
      subst hfst
      refine ⟨_, .s (.one (.fn h1)), ?_⟩
      have e : cs.map a.eval = (rs.map fun r => Value.pointer (some ⟨r, 0, none⟩)).toArray := by
        apply Array.ext'
        simpa using h2
      simp [execOp, Instr.makeFunc, e]
  case h_11 t x lo hi =>
    simp only [Option.map_eq_some_iff] at hv
    obtain ⟨z, hz, rfl⟩ := hv
    obtain ⟨x', h1, h2⟩ := slice_sound h hz
    exact ⟨x', .s h1, by simp [execOp, h2]⟩
  case h_12 t x f =>
    split at hv
    · rename_i fs b o hu hb
      obtain ⟨r, hr, hρ⟩ := (evc_sound h hb).ptr_inv
      split at hv
      · rename_i g hg
        split at hv
        · rename_i s hs
          cases hs0 : Nat.beq s 0 with
          | true => simp [hs0] at hv
          | false =>
            simp only [hs0, cond_false, Option.some.injEq] at hv; subst hv
            refine ⟨_, .s (.one (.ptr hρ)), ?_⟩
            have hne := beq_f hs0
            simp [execOp, Instr.fieldAt, run_underlying hu, hg, hr, Instr.sureAddr, fieldPlace, run_sizeX hs, hne, add_none]
        · cases hv
      · cases hv
    · cases hv
  case h_13 t x f =>
    split at hv
    · rename_i fs l hu hl
      obtain ⟨xs, hx, hxs⟩ := (ev1_sound h hl).agg_inv
      split at hv
      · rename_i g hg
        simp only [Option.map_eq_some_iff] at hv
        obtain ⟨z, hz, rfl⟩ := hv
        obtain ⟨x', h1, h2⟩ := part_sound hz hxs w
        exact ⟨x', .s h1, by simp [execOp, Instr.field, run_underlying hu, hg, hx, asAgg, h2]⟩
      · cases hv
    · cases hv
  case h_14 t x i =>
    split at hv
    · rename_i n e b o k j hu hb hi
      obtain ⟨r, hr, hρ⟩ := (evc_sound h hb).ptr_inv
      have hk := (evc_sound h hi).v_inv
      split at hv
      · rename_i hj
        split at hv
        · rename_i s hs
          simp only [Option.some.injEq] at hv; subst hv
          refine ⟨_, .s (.one (.ptr hρ)), ?_⟩
          simp [execOp, Instr.indexAt, hk, asIntOf, run_underlying hu, hr, Instr.sureAddr, hj, run_sizeX hs, add_none]
        · cases hv
      · cases hv
    · rename_i e b o n c k j hu hb hi
      obtain ⟨r, hr, hρ⟩ := (evc_sound h hb).sl_inv
      have hk := (evc_sound h hi).v_inv
      split at hv
      · rename_i hj
        split at hv
        · rename_i s hs
          simp only [Option.some.injEq] at hv; subst hv
          refine ⟨_, .s (.one (.ptr hρ)), ?_⟩
          simp [execOp, Instr.indexAt, hk, asIntOf, run_underlying hu, hr, hj, run_sizeX hs, add_none]
        · cases hv
      · cases hv
    · cases hv
  case h_15 t x i =>
    split at hv
    · rename_i n e l k j hu hl hi
      obtain ⟨xs, hx, hxs⟩ := (ev1_sound h hl).agg_inv
      have hk := (evc_sound h hi).v_inv
      split at hv
      · rename_i hj
        split at hv
        · rename_i s hs
          simp only [Option.map_eq_some_iff] at hv
          obtain ⟨z, hz, rfl⟩ := hv
          obtain ⟨x', h1, h2⟩ := part_sound hz hxs w
          exact ⟨x', .s h1, by simp [execOp, Instr.index, hk, asIntOf, run_underlying hu, hx, hj, run_sizeX hs, h2]⟩
        · cases hv
      · cases hv
    · rename_i s k j hu hl hi
      have hx := (ev1_sound h hl).one_inv.v_inv
      have hk := (evc_sound h hi).v_inv
      split at hv
      · rename_i hj
        simp only [Option.map_eq_some_iff] at hv
        obtain ⟨c, hc, rfl⟩ := hv
        exact ⟨_, .s (.one (.v rfl)), by simp [execOp, Instr.index, hk, asIntOf, run_underlying hu, hx, hj, hc]⟩
      · cases hv
    · cases hv
  case h_16 t m k =>
    simp only [Option.map_eq_some_iff] at hv
    obtain ⟨y, hy, rfl⟩ := hv
    unfold lookX at hy
    split at hy
    · rename_i b kk i hm hk
      obtain ⟨r, hr, hρ⟩ := (evc_sound h hm).mp_inv
      have hki := (evc_sound h hk).v_inv
      unfold lookAt at hy
      split at hy
      · rename_i kt et l hu hl
        split at hy
        case h_2 => cases hy
        rename_i kd hkt
        cases hall : l.all (intKey kk) with
        | false => simp [hall] at hy
        | true =>
          simp only [hall, cond_true, Option.map_eq_some_iff] at hy
          obtain ⟨c, hc, rfl⟩ := hy
          obtain ⟨_, _, k0, ob, hk0, hob, hdb⟩ := h.mem.dom b r hρ
          rw [hl] at hk0
          cases hk0
          cases hdb with
          | map hes =>
            rename_i es clock
            have hall' : ∀ p ∈ l, ∃ j, p.1 = Value.int kk j := fun p hp => by
              have := List.all_eq_true.1 hall p hp
              obtain ⟨q, c'⟩ := p
              cases q <;> simp [intKey] at this
              subst this
              exact ⟨_, rfl⟩
            obtain ⟨n, x, h1, h2⟩ := look_list (kd := kd) 0 hes hc hall'
            refine ⟨x, .s (.one h1), ?_⟩
            have hget : (getObj r).run P w = .ok (.map es.toArray clock) w := by simp [getObj, Sem.run, hob]
            have hck : ∀ b, (Instr.checkKey b 10000 kt (.int kk i)).run P w = .ok () w := fun b => checkKey_int 9999 b hkt
            simp [execOp, Instr.lookup, run_underlying hu, hr, hget, hki, hck, Instr.findKey, run_underlying hkt, h2]
      · cases hy
    · cases hy
  case h_17 t i =>
    split at hv
    · rename_i l hl
      obtain ⟨xs, hx, hxs⟩ := (eval_sound h hl).tup_inv
      simp only [Option.map_eq_some_iff] at hv
      obtain ⟨y, hy, rfl⟩ := hv
      obtain ⟨x, h1, h2⟩ := hxs.get hy
      exact ⟨x, .s h2, by simp [execOp, hx, Instr.extract, h1]⟩
    · cases hv
  case h_18 args ts =>
    split at hv
    · rename_i x t hx ht
      split at hv
      · rename_i y hy
        simp only [Option.map_eq_some_iff] at hv
        obtain ⟨z, hz, rfl⟩ := hv
        have hlen : (args.map a.eval)[0]? = some (a.eval x) := by simp [hx]
        obtain ⟨h1, h2⟩ := len_sound hz (ev1_sound h hy) type hlen ts ht w
        exact ⟨z, .s (.one (.v h2)), by simp [execOp, resolve, invoke, builtin, h1]⟩
      · cases hv
    · cases hv
  case h_19 _ args tys =>
    split at hv
    · rename_i x y hxy
      split at hv
      · rename_i k i k' j hx hy
        simp only [Option.some.injEq] at hv; subst hv
        have h1 := (evc_sound h hx).v_inv
        have h2 := (evc_sound h hy).v_inv
        have e : args = #[x, y] := by apply Array.ext'; simpa using hxy
        subst e
        exact ⟨_, .s (.one (.v rfl)), by simp [execOp, resolve, invoke, builtin, Builtin.max_, Builtin.max2, h1, h2]⟩
      · cases hv
    · cases hv
  case h_20 _ args tys =>
    split at hv
    · rename_i x y hxy
      split at hv
      · rename_i k i k' j hx hy
        simp only [Option.some.injEq] at hv; subst hv
        have h1 := (evc_sound h hx).v_inv
        have h2 := (evc_sound h hy).v_inv
        have e : args = #[x, y] := by apply Array.ext'; simpa using hxy
        subst e
        exact ⟨_, .s (.one (.v rfl)), by simp [execOp, resolve, invoke, builtin, Builtin.min_, Builtin.min2, h1, h2]⟩
      · cases hv
    · cases hv
  case h_21 => cases hv
end
end Go.Rx
