/-
  THE RUNNER IS SOUND, part 6: the operations that make or write memory.
-/
import Derived.Test.YteaglhkacfcgfaaRxG
import Derived.Laws.CopyRow
namespace Go.Rx
open Go Go.RowKit

/-- What was below the least number written, and was there, is as it was. -/
structure Frm (m m' : Mem) : Prop where
  hn : m.hn ≤ m'.hn
  wr : m'.wr ≤ m.wr
  get : ∀ b, b < m'.wr → b < m.hn → m'.hp.get b = m.hp.get b
theorem Frm.refl (m : Mem) : Frm m m := ⟨Nat.le_refl _, Nat.le_refl _, fun _ _ _ => rfl⟩
theorem Frm.trans {m m' m'' : Mem} (h : Frm m m') (k : Frm m' m'') : Frm m m'' :=
  ⟨Nat.le_trans h.hn k.hn, Nat.le_trans k.wr h.wr, fun b h1 h2 => (k.get b h1 (Nat.lt_of_lt_of_le h2 h.hn)).trans (h.get b (Nat.lt_of_lt_of_le h1 k.wr) h2)⟩
theorem Frm.push (m : Mem) (b : Blk) : Frm m (m.push b) :=
  ⟨Nat.le_succ _, Nat.le_refl _, fun i _ hi => by simp only [Mem.push]; exact get_ins_ne _ (by omega)⟩
theorem ble_f {a b : Nat} (h : Nat.ble a b = false) : b < a := by
  rcases Nat.lt_or_ge b a with h' | h'
  · exact h'
  · rw [Nat.ble_eq_true_of_le h'] at h; cases h
theorem upd_wr (m : Mem) (i : Nat) (b : Blk) : (m.upd i b).wr ≤ i ∧ (m.upd i b).wr ≤ m.wr := by
  unfold Mem.upd
  cases h : Nat.ble i m.wr with
  | true => simp; exact ble_t h
  | false => simp; have := ble_f h; omega
theorem Frm.upd (m : Mem) (i : Nat) (b : Blk) : Frm m (m.upd i b) :=
  ⟨Nat.le_refl _, (upd_wr m i b).2, fun j h1 _ => by
    have := (upd_wr m i b).1
    simp only [Mem.upd] at h1 ⊢
    exact get_set_ne _ (by simp only [Mem.upd] at this; omega)⟩

section
variable {P : Program} {W : World} {ρ : Loc'} {st : St} {a : Act} {m : Mem} {w : World}

def Loc'.add (ρ : Loc') (b r : Nat) : Loc' := ⟨fun i => if i = b then some r else ρ i, ρ.val⟩
theorem add_same (b r : Nat) : (Loc'.add ρ b r) b = some r := by simp [Loc'.add]
theorem add_other {b r i : Nat} (h : i ≠ b) : (Loc'.add ρ b r) i = ρ i := by simp [Loc'.add, h]
theorem Ext.add {b r : Nat} (h : ρ b = none) : Ext ρ (Loc'.add ρ b r) := ⟨fun i q hi => by
  have : i ≠ b := fun e => by subst e; rw [h] at hi; cases hi
  rw [add_other this]; exact hi, rfl⟩
theorem Keep.push {r : Nat} {k : Blk} : Keep m.hn m (m.push k) ρ (Loc'.add ρ m.hn r) := fun i hi hn => by
  rw [add_other (by omega)]; exact ⟨hn, get_ins_ne _ (by omega)⟩
theorem Keep.upd {n b r : Nat} {k : Blk} (h : ρ b = some r) : Keep n m (m.upd b k) ρ ρ := fun i _ hn =>
  ⟨hn, get_set_ne _ (fun e => by subst e; rw [h] at hn; cases hn)⟩

/-- A new block under a number that is not in use; the runner's memory holds its text there. -/
theorem MemRel.fresh {b : Nat} {k : Blk} {o : Obj} (h : MemRel W ρ m w) (hb : ρ b = none) {m' : Mem} (hbn : b < m'.hn) (hk : m'.hp.get b = some k) (hd : DB ρ k o)
    (hkeep : ∀ i r, ρ i = some r → m'.hp.get i = m.hp.get i) (hn : m.hn ≤ m'.hn) (hfull : ∀ i, i < m'.hn → (m'.hp.get i).isSome) :
    MemRel W (Loc'.add ρ b w.heap.size) m' { w with heap := w.heap.push o } := by
  have hE : Ext ρ (Loc'.add ρ b w.heap.size) := Ext.add hb
  have hlt : ∀ i r, ρ i = some r → r < w.heap.size := fun i r hi => by
    obtain ⟨_, _, k, o, _, h2, _⟩ := h.dom i r hi
    exact (Array.getElem?_eq_some_iff.1 h2).1
  refine ⟨h.below.trans ⟨rfl, rfl, rfl, by simp, fun i hi => ?_⟩, fun i r hi => ?_, fun i j r hi hj => ?_, hfull⟩
  · have := h.below.size
    show (w.heap.push o)[i]? = _
    rw [Array.getElem?_push, if_neg (by omega)]
  · by_cases hib : i = b
    · subst hib
      rw [add_same] at hi; cases hi
      exact ⟨hbn, h.below.size, k, o, hk, by simp, hd.mono hE⟩
    · rw [add_other hib] at hi
      obtain ⟨h1, h2, k', o', h3, h4, h5⟩ := h.dom i r hi
      refine ⟨by omega, h2, k', o', (hkeep i r hi).trans h3, ?_, h5.mono hE⟩
      have := hlt i r hi
      show (w.heap.push o)[r]? = _
      rw [Array.getElem?_push, if_neg (by omega), h4]
  · by_cases hib : i = b <;> by_cases hjb : j = b
    · rw [hib, hjb]
    · rw [hib, add_same] at hi; rw [add_other hjb] at hj; cases hi
      exact absurd (hlt _ _ hj) (by omega)
    · rw [hjb, add_same] at hj; rw [add_other hib] at hi; cases hj
      exact absurd (hlt _ _ hi) (by omega)
    · rw [add_other hib] at hi; rw [add_other hjb] at hj
      exact h.inj i j r hi hj

theorem MemRel.hn_none (h : MemRel W ρ m w) : ρ m.hn = none := by
  cases hc : ρ m.hn with
  | none => rfl
  | some r => have := (h.dom _ _ hc).1; omega
theorem MemRel.push {k : Blk} {o : Obj} (h : MemRel W ρ m w) (hd : DB ρ k o) : MemRel W (Loc'.add ρ m.hn w.heap.size) (m.push k) { w with heap := w.heap.push o } := by
  refine h.fresh h.hn_none (by simp [Mem.push]) (get_ins_eq _ h.full) hd (fun i r hi => ?_) (by simp [Mem.push]) (fun i hi => ?_)
  · have := (h.dom i r hi).1
    exact get_ins_ne _ (by omega)
  · simp only [Mem.push] at hi ⊢
    by_cases hin : i = m.hn
    · subst hin; rw [get_ins_eq _ h.full]; rfl
    · rw [get_ins_ne _ (Ne.symm hin)]; exact h.full i (by omega)

theorem MemRel.upd {b r : Nat} {k : Blk} {o : Obj} (h : MemRel W ρ m w) (hb : ρ b = some r) (hd : DB ρ k o) {w' : World} (hos : w'.os = w.os) (htape : w'.tape = w.tape) (hout : w'.output = w.output)
    (hsize : w.heap.size ≤ w'.heap.size) (hr : w'.heap[r]? = some o) (hother : ∀ i, i ≠ r → w'.heap[i]? = w.heap[i]?) : MemRel W ρ (m.upd b k) w' := by
  obtain ⟨hbn, hWr, k0, o0, hk0, _, _⟩ := h.dom b r hb
  refine ⟨h.below.trans ⟨hos, htape, hout, hsize, fun i hi => hother i (by omega)⟩, fun i q hi => ?_, h.inj, fun i hi => ?_⟩
  · obtain ⟨h1, h2, k', o', h3, h4, h5⟩ := h.dom i q hi
    by_cases hib : i = b
    · subst hib
      rw [hb] at hi; cases hi
      exact ⟨hbn, h2, k, o, get_set_eq _ hk0, hr, hd⟩
    · have hq : q ≠ r := fun e => hib (h.inj i b r (e ▸ hi) hb)
      exact ⟨h1, h2, k', o', by simp only [Mem.upd]; rw [get_set_ne _ (Ne.symm hib)]; exact h3, (hother q hq).trans h4, h5⟩
  · simp only [Mem.upd]
    by_cases hib : b = i
    · subst hib; rw [get_set_eq _ hk0]; rfl
    · rw [get_set_ne _ hib]; exact h.full i hi

/-- What an operation that makes or writes memory comes to. -/
def MemOk (W : World) (ρ : Loc') (m : Mem) (r : Result Next) (v : V) (m' : Mem) : Prop :=
  ∃ x w' ρ', Ext ρ ρ' ∧ Keep m.hn m m' ρ ρ' ∧ DV ρ' v x ∧ MemRel W ρ' m' w' ∧ (r = .ok (.value x) w' ∨ (r = .ok .skip w' ∧ x = undef))

theorem row_sound (h : StRel W ρ st a w) {c : C} {l : List C} (hl : rowOf st c = some l) {x : Value} (hx : DC ρ c x) :
    ∃ xs : List Value, All2 (DC ρ) l xs ∧ (Builtin.lenOf x).run P w = .ok l.length w ∧ ∀ n, n ≤ l.length → (Builtin.firstCells 1 n x).run P w = .ok (xs.take n).toArray w := by
  unfold rowOf at hl
  split at hl
  · rename_i b o n cp
    obtain ⟨r, rfl, hρ⟩ := hx.sl_inv
    split at hl
    · rename_i l0 e hb
      obtain ⟨hle, rfl⟩ := takeAt_some hl
      obtain ⟨_, _, k, ob, hk, hob, hdb⟩ := h.mem.dom b r hρ
      rw [hb] at hk; cases hk
      cases hdb with
      | cells hcs =>
        rename_i xs
        have hn : ((l0.drop o).take n).length = n := by simp; omega
        refine ⟨(xs.drop o).take n, (hcs.drop o).take n, by simp [Builtin.lenOf]; omega, fun q hq => ?_⟩
        rw [hn] at hq
        have hlen := hcs.length
        have hlen' : ((xs.drop o).take q).length = q := by simp; omega
        have hload := run_loadCells_list (P := P) w ⟨r, o, none⟩ ((xs.drop o).take q) (fun j v hv => by
          rw [add_none, cell_of hob]
          have hj : j < q := by
            have := (List.getElem?_eq_some_iff.1 hv).1
            omega
          rw [List.getElem?_take_of_lt hj, List.getElem?_drop] at hv
          exact hv)
        rw [hlen'] at hload
        simp only [Builtin.firstCells, Nat.mul_one, hload, List.take_take, Nat.min_eq_left hq]
    · cases hl
  · rename_i s
    have := hx.v_inv; subst this
    simp only [Option.some.injEq] at hl; subst hl
    have hsz : s.toList.length = s.size := by rw [ByteArray.toList_eq]; rfl
    refine ⟨s.toList.map fun c => .int .u8 c.toNat, ?_, by simp [Builtin.lenOf, hsz], fun q _ => ?_⟩
    · have e : (s.toList.map fun c => C.v (Value.int .u8 c.toNat)) = (s.toList.map fun c => Value.int .u8 c.toNat).map C.v := by simp
      rw [e]
      exact All2.of_map_mem _ fun y hy => by
        simp only [List.mem_map] at hy
        obtain ⟨c, _, rfl⟩ := hy
        exact .v rfl
    · simp only [Builtin.firstCells, Sem.run_pure]
      congr 1
      apply Array.ext'
      simp [ByteArray.toList_eq]
  · cases hl

theorem notInt_list {kk kd : IntKind} {i : Int} : ∀ {l : List (Value × C)} {es : List MapEntry} (n : Nat), All2 (fun p (m : MapEntry) => p.1 = m.key ∧ DC ρ p.2 m.val) l es → l.all (notInt kk i) = true →
    Instr.findNow (.int kd) (.int kk i) es n = some none
  | [], _, n, .nil, _ => rfl
  | (q, c0) :: l, m :: es, n, .cons hm hrest, hall => by
    simp only [List.all_cons, Bool.and_eq_true] at hall
    obtain ⟨h1, h2⟩ := hall
    have hk := hm.1
    clear hm
    simp only at hk
    cases q <;> simp [notInt] at h1
    rename_i kq j
    obtain ⟨rfl, hne⟩ := h1
    have hij : (i == j) = false := by simp; omega
    simp [Instr.findNow, ← hk, Instr.sameNow, hij, notInt_list (kd := kd) (n + 1) hrest h2]

theorem mem_sound (h : StRel W ρ st a w) {o : Oper} {v : V} {m' : Mem} (hv : memX P st o = some (v, m')) : MemOk W ρ st.m ((execOp a.eval o).run P w) v m' := by
  obtain ⟨dst, op, type, pos, after, guard⟩ := o
  unfold memX at hv
  simp only at hv
  split at hv
  case h_1 t =>
    split at hv
    · rename_i z hz
      simp only [Option.some.injEq, Prod.mk.injEq] at hv
      obtain ⟨rfl, rfl⟩ := hv
      obtain ⟨zv, h1, h2⟩ := run_zeroX hz w ρ
      have hp := h.mem.push (k := .cells z t) (o := .cells zv.cells t (0, 0)) (by have := DB.cells (e := t) h2; simpa using this)
      refine ⟨_, _, _, Ext.add h.mem.hn_none, Keep.push, .s (.one (.ptr (add_same _ _))), hp, .inl ?_⟩
      simp [execOp, Instr.alloc, h1, newVar, newRow]
    · cases hv
  case h_2 t x =>
    split at hv
    · rename_i y hy
      simp only [Option.some.injEq, Prod.mk.injEq] at hv
      obtain ⟨rfl, rfl⟩ := hv
      have hc := (ev1_sound h hy).cells
      have hp := h.mem.push (k := .cells y.cells t) (o := .cells (a.eval x).cells t (0, 0)) (by have := DB.cells (e := t) hc; simpa using this)
      refine ⟨_, _, _, Ext.add h.mem.hn_none, Keep.push, .s (.one (.ptr (add_same _ _))), hp, .inl ?_⟩
      simp [execOp, Instr.box, newVar, newRow]
    · cases hv
  case h_3 t x y =>
    split at hv
    · rename_i b o' y' s hb hy hs
      cases hc : Nat.beq y'.cells.length s && oneCells y'.cells with
      | false => simp [hc] at hv
      | true =>
        simp only [hc, cond_true] at hv
        split at hv
        · rename_i l e hl
          simp only [Option.map_eq_some_iff, Prod.mk.injEq] at hv
          obtain ⟨l', hl', rfl, rfl⟩ := hv
          obtain ⟨hle, rfl⟩ := putAt_some hl'
          obtain ⟨r, hr, hρ⟩ := (evc_sound h hb).ptr_inv
          obtain ⟨_, _, k, ob, hk, hob, hdb⟩ := h.mem.dom b r hρ
          rw [hl] at hk; cases hk
          cases hdb with
          | cells hcs =>
            rename_i xs
            have hyc := (ev1_sound h hy).cells
            simp only [Bool.and_eq_true] at hc
            have hlen := beq_t hc.1
            have h1 := hyc.length
            have h2 := hcs.length
            simp only [Array.length_toList] at h1
            have hst := run_storeCells_at P r o' e (a.eval y).cells.toList 0 xs.toArray w hob (by simp; omega) (fun v hv => by
              obtain ⟨i, hi, rfl⟩ := List.mem_iff_getElem.1 hv
              have hi' : i < y'.cells.length := by simp at hi; omega
              obtain ⟨b', hb1, hb2⟩ := hyc.get (i := i) (a := y'.cells[i]) (by simp [hi'])
              simp only [List.getElem?_eq_getElem hi, Option.some.injEq] at hb1
              subst hb1
              exact hb2.oneCell)
            have hnew : All2 (DC ρ) (l.take o' ++ (y'.cells ++ l.drop (o' + y'.cells.length))) (xs.take o' ++ ((a.eval y).cells.toList ++ xs.drop (o' + (a.eval y).cells.toList.length))) := by
              rw [hyc.length]
              exact (hcs.take o').append (hyc.append (hcs.drop _))
            refine ⟨undef, w.setRow r (xs.take o' ++ ((a.eval y).cells.toList ++ xs.drop (o' + (a.eval y).cells.toList.length))).toArray, ρ, Ext.refl _, Keep.upd hρ, DV.undef _, ?_, .inr ⟨?_, rfl⟩⟩
            rotate_left
            · simp only [execOp, Instr.storeAt, hr, Instr.sureAddr, storeVar, Sem.run_bind, Sem.run_pure, Result.andThen_ok, run_sizeX hs]
              rw [if_neg (by omega), hst]
              simp
            · refine h.mem.upd hρ (DB.cells hnew) rfl rfl rfl (by simp) ?_ (fun i hi => setRow_other w r i _ hi)
              exact setRow_heap w r _ _ e (0, 0) hob
        · cases hv
    · cases hv
  case h_4 t =>
    split at hv
    · rename_i kt et hu
      simp only [Option.some.injEq, Prod.mk.injEq] at hv
      obtain ⟨rfl, rfl⟩ := hv
      have hp := h.mem.push (k := .map []) (o := .map #[] 0) (DB.map (es := []) .nil)
      refine ⟨_, _, _, Ext.add h.mem.hn_none, Keep.push, .s (.one (.mp (add_same _ _))), hp, .inl ?_⟩
      simp [execOp, Instr.makeMap]
    · cases hv
  case h_5 t mm k x =>
    split at hv
    · rename_i kt et b kk i c hu hm hk hx
      split at hv
      · rename_i kd l hkt hl
        cases hall : l.all (notInt kk i) with
        | false => simp [hall] at hv
        | true =>
          simp only [hall, cond_true, Option.some.injEq, Prod.mk.injEq] at hv
          obtain ⟨rfl, rfl⟩ := hv
          obtain ⟨r, hr, hρ⟩ := (evc_sound h hm).mp_inv
          have hki := (evc_sound h hk).v_inv
          have hxd := evc_sound h hx
          obtain ⟨_, _, k0, ob, hk0, hob, hdb⟩ := h.mem.dom b r hρ
          rw [hl] at hk0; cases hk0
          cases hdb with
          | map hes =>
            rename_i es clock
            have hget : (getObj r).run P w = .ok (.map es.toArray clock) w := by simp [getObj, Sem.run, hob]
            have hck : (Instr.checkKey false 10000 kt (.int kk i)).run P w = .ok () w := checkKey_int 9999 false hkt
            have hfind := notInt_list (kd := kd) 0 hes hall
            have hlt : r < w.heap.size := (Array.getElem?_eq_some_iff.1 hob).1
            have hset : ∀ o, (setObj r o).run P w = .ok () { w with heap := w.heap.setIfInBounds r o } := fun o => by simp [setObj, Sem.run, hob]
            refine ⟨undef, { w with heap := w.heap.setIfInBounds r (.map (es.toArray.push { key := .int kk i, val := a.eval x, born := clock }) (clock + 1)) }, ρ, Ext.refl _, Keep.upd hρ, DV.undef _, ?_, .inr ⟨?_, rfl⟩⟩
            · refine h.mem.upd hρ (o := .map (es ++ [({ key := .int kk i, val := a.eval x, born := clock } : MapEntry)]).toArray (clock + 1)) (DB.map (hes.append (.cons ⟨rfl, hxd⟩ .nil))) rfl rfl rfl (by simp) ?_ (fun j hj => by simp [Array.getElem?_setIfInBounds_ne (Ne.symm hj)])
              simp [hlt]
            · simp [execOp, Instr.mapUpdate, run_underlying hu, hr, hget, hki, hck, Instr.findKey, run_underlying hkt, hfind, hset]
      · cases hv
    · cases hv
  case h_6 t x =>
    split at hv
    · rename_i s hu hs
      simp only [Option.some.injEq, Prod.mk.injEq] at hv
      obtain ⟨rfl, rfl⟩ := hv
      have hx := (evc_sound h hs).v_inv
      have hp := h.mem.push (k := .iter s 0) (o := .stringIter s 0) .iter
      refine ⟨_, _, _, Ext.add h.mem.hn_none, Keep.push, .s (.one (.ptr (add_same _ _))), hp, .inl ?_⟩
      simp [execOp, Instr.range, run_underlying hu, hx]
    · cases hv
  case h_7 it =>
    split at hv
    · rename_i b hb
      obtain ⟨r, hr, hρ⟩ := (evc_sound h hb).ptr_inv
      split at hv
      · rename_i s pos' hl
        obtain ⟨_, _, k0, ob, hk0, hob, hdb⟩ := h.mem.dom b r hρ
        rw [hl] at hk0; cases hk0
        cases hdb
        have hget : (getObj r).run P w = .ok (.stringIter s pos') w := by simp [getObj, Sem.run, hob]
        have hlt : r < w.heap.size := (Array.getElem?_eq_some_iff.1 hob).1
        cases hp : Nat.blt pos' s.size with
        | true =>
          simp only [hp, cond_true, Option.some.injEq, Prod.mk.injEq] at hv
          obtain ⟨rfl, rfl⟩ := hv
          have hlt' : pos' < s.size := ble_t hp
          have hset : ∀ o, (setObj r o).run P w = .ok () { w with heap := w.heap.setIfInBounds r o } := fun o => by simp [setObj, Sem.run, hob]
          refine ⟨.tuple #[.bool true, goInt pos', .int .i32 (Utf8.decode s pos').1], { w with heap := w.heap.setIfInBounds r (.stringIter s (pos' + (Utf8.decode s pos').2)) }, ρ, Ext.refl _, Keep.upd hρ, .tup (xs := [_, _, _]) (.cons (.one (.v rfl)) (.cons (.one (.v rfl)) (.cons (.one (.v rfl)) .nil))), ?_, .inl ?_⟩
          · exact h.mem.upd hρ (o := .stringIter s (pos' + (Utf8.decode s pos').2)) .iter rfl rfl rfl (by simp) (by simp [hlt]) (fun j hj => by simp [Array.getElem?_setIfInBounds_ne (Ne.symm hj)])
          · simp [execOp, Instr.next, hr, hget, hlt', hset]
        | false =>
          simp only [hp, cond_false, Option.some.injEq, Prod.mk.injEq] at hv
          obtain ⟨rfl, rfl⟩ := hv
          have hge : ¬ pos' < s.size := by have := ble_f hp; omega
          refine ⟨.tuple #[.bool false], w, ρ, Ext.refl _, Keep.refl _ _ _, .tup (xs := [_]) (.cons (.one (.v rfl)) .nil), h.mem, .inl ?_⟩
          simp [execOp, Instr.next, hr, hget, hge]
      · cases hv
    · cases hv
  case h_8 _ args ts =>
    split at hv
    · rename_i d s t hargs ht
      split at hv
      · rename_i b o' n cp y e hd hy hu
        split at hv
        · rename_i cs l e' hsz hrow hl
          cases hc : oneCells (cs.take n) with
          | false => simp [hc] at hv
          | true =>
            simp only [hc, cond_true, Option.map_eq_some_iff, Prod.mk.injEq] at hv
            obtain ⟨l', hl', rfl, rfl⟩ := hv
            obtain ⟨hle, rfl⟩ := putAt_some hl'
            obtain ⟨r, hr, hρ⟩ := (evc_sound h hd).sl_inv
            obtain ⟨xs, hxs, hlen, hfirst⟩ := row_sound (P := P) h hrow (evc_sound h hy)
            obtain ⟨_, _, k, ob, hk, hob, hdb⟩ := h.mem.dom b r hρ
            rw [hl] at hk; cases hk
            cases hdb with
            | cells hcs =>
              rename_i zs
              have ea : args = #[d, s] := by apply Array.ext'; simpa using hargs
              subst ea
              have h1 := hxs.length
              have h2 := hcs.length
              have hf := hfirst (min cs.length n) (by omega)
              have htk : xs.take (min cs.length n) = xs.take n := by
                rcases Nat.le_total n cs.length with hle' | hle'
                · rw [Nat.min_eq_right hle']
                · rw [Nat.min_eq_left hle', List.take_of_length_le (by omega), List.take_of_length_le (by omega)]
              have hst := run_storeCells_at P r o' e' (xs.take n) 0 zs.toArray w hob (by simp at hle ⊢; omega) (fun v hv => by
                obtain ⟨i, hi, rfl⟩ := List.mem_iff_getElem.1 hv
                have hi' : i < cs.length := by simp at hi; omega
                have hin : i < n := by simp at hi; omega
                obtain ⟨b', hb1, hb2⟩ := hxs.get (i := i) (a := cs[i]) (by simp [hi'])
                have : xs[i]? = some (xs.take n)[i] := by rw [← List.getElem?_eq_getElem hi, List.getElem?_take_of_lt hin]
                rw [this] at hb1; cases hb1
                exact hb2.oneCell)
              have hnew : All2 (DC ρ) (l.take o' ++ (cs.take n ++ l.drop (o' + (cs.take n).length))) (zs.take o' ++ (xs.take n ++ zs.drop (o' + (xs.take n).length))) := by
                rw [(hxs.take n).length]
                exact (hcs.take o').append ((hxs.take n).append (hcs.drop _))
              refine ⟨goInt (min cs.length n : Nat), w.setRow r (zs.take o' ++ (xs.take n ++ zs.drop (o' + (xs.take n).length))).toArray, ρ, Ext.refl _, Keep.upd hρ, .s (.one (.v rfl)), ?_, .inl ?_⟩
              · refine h.mem.upd hρ (DB.cells hnew) rfl rfl rfl (by simp) ?_ (fun i hi => setRow_other w r i _ hi)
                exact setRow_heap w r _ _ e' (0, 0) hob
              · simp only [Nat.add_zero] at hst
                have hmin : Nat.min cs.length n = min cs.length n := rfl
                simp [execOp, resolve, invoke, builtin, Builtin.copy_, ht, run_underlying hu, hr, hlen, run_sizeX hsz, hmin, hf, htk, hst]
        · cases hv
      · cases hv
    · cases hv
  case h_9 => cases hv
end
end Go.Rx
