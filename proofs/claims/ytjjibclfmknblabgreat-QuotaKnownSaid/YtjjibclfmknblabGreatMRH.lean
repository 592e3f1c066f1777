/-
  THE RUNNER IS SOUND, part 6: the operations that make or write memory.
  THE RUNNER IS SOUND, part 7: an operation, a call, a region in the order of the text.
  THE RUNNER IS SOUND, part 8: what an operation looks at.
-/
import Derived.Test.YtjjibclfmknblabGreatMRA
import Derived.Laws.CopyRow
import Derived.ArgAppend
import Derived.Laws.MakeOwn
import Derived.Great.BuildSlice
import Derived.RangeFuncIn
import Derived.RangeFuncLeaves
import Derived.OrdersIn
import Derived.LoopNIn
set_option linter.all false
namespace Go.Ry
open Go Go.RowKit

/-- What was below the least number written, and was there, is as it was. -/
structure Frm (m m' : Mem) : Prop where
  hn : m.hn ≤ m'.hn
  wr : m'.wr ≤ m.wr
  get : ∀ b, b < m'.wr → b < m.hn → m'.hp.get b = m.hp.get b
theorem Frm.refl (m : Mem) : Frm m m := ⟨Nat.le_refl _, Nat.le_refl _, fun _ _ _ => rfl⟩
theorem Frm.trans {m m' m'' : Mem} (h : Frm m m') (k : Frm m' m'') : Frm m m'' :=
  ⟨Nat.le_trans h.hn k.hn, Nat.le_trans k.wr h.wr, fun b h1 h2 => (k.get b h1 (Nat.lt_of_lt_of_le h2 h.hn)).trans (h.get b (Nat.lt_of_lt_of_le h1 k.wr) h2)⟩
theorem Frm.push (m : Mem) (b : Blk) : Frm m (m.push b) :=
  ⟨Nat.le_succ _, Nat.le_refl _, fun i _ hi => by simp only [Mem.push]; exact get_ins_ne _ (by omega)⟩
theorem ble_f {a b : Nat} (h : Nat.ble a b = false) : b < a := by
  rcases Nat.lt_or_ge b a with h' | h'
  · exact h'
  · rw [Nat.ble_eq_true_of_le h'] at h; cases h
theorem upd_wr (m : Mem) (i : Nat) (b : Blk) : (m.upd i b).wr ≤ i ∧ (m.upd i b).wr ≤ m.wr := by
  unfold Mem.upd
  cases h : Nat.ble i m.wr with
  | true => simp; exact ble_t h
  | false => simp; have := ble_f h; omega
theorem Frm.upd (m : Mem) (i : Nat) (b : Blk) : Frm m (m.upd i b) :=
  ⟨Nat.le_refl _, (upd_wr m i b).2, fun j h1 _ => by
    have := (upd_wr m i b).1
    simp only [Mem.upd] at h1 ⊢
    exact get_set_ne _ (by simp only [Mem.upd] at this; omega)⟩

section
variable {P : Program} {W : Base} {ρ : Loc'} {st : St} {a : Act} {m : Mem} {w : World}

def Loc'.add (ρ : Loc') (b r s : Nat) : Loc' := ⟨fun i => if i = b then some r else ρ i, fun i => if i = b then s else ρ.sz i, ρ.val, ρ.it⟩
theorem add_same (b r s : Nat) : (Loc'.add ρ b r s) b = some r := by simp [Loc'.add]
theorem add_other {b r s i : Nat} (h : i ≠ b) : (Loc'.add ρ b r s) i = ρ i := by simp [Loc'.add, h]
theorem add_sz (b r s : Nat) : (Loc'.add ρ b r s).sz b = s := by simp [Loc'.add]
theorem add_szo {b r s i : Nat} (h : i ≠ b) : (Loc'.add ρ b r s).sz i = ρ.sz i := by simp [Loc'.add, h]
theorem Ext.add {b r s : Nat} (h : ρ b = none) : Ext ρ (Loc'.add ρ b r s) := ⟨fun i q hi => by
  have : i ≠ b := fun e => by subst e; rw [h] at hi; cases hi
  rw [add_other this]; exact hi, fun i q hi => by
  have : i ≠ b := fun e => by subst e; rw [h] at hi; cases hi
  rw [add_szo this], rfl, rfl⟩
theorem Keep.push {r s : Nat} {k : Blk} : Keep m.hn m (m.push k) ρ (Loc'.add ρ m.hn r s) := fun i hi hn => by
  rw [add_other (by omega)]; exact ⟨hn, get_ins_ne _ (by omega)⟩
theorem Keep.upd {n b r : Nat} {k : Blk} (h : ρ b = some r) : Keep n m (m.upd b k) ρ ρ := fun i _ hn =>
  ⟨hn, get_set_ne _ (fun e => by subst e; rw [h] at hn; cases hn)⟩

/-- A new block under a number that is not in use; the runner's memory holds its text there. -/
theorem MemRel.fresh {b : Nat} {k : Blk} {o : Obj} (h : MemRel W ρ m w) (hb : ρ b = none) {m' : Mem} (hbn : b < m'.hn) (hk : m'.hp.get b = some k) (hd : DB ρ k o)
    (hkeep : ∀ i r, ρ i = some r → m'.hp.get i = m.hp.get i) (hn : m.hn ≤ m'.hn) (hfull : ∀ i, i < m'.hn → (m'.hp.get i).isSome) :
    MemRel W (Loc'.add ρ b w.heap.size (osz o)) m' { w with heap := w.heap.push o } := by
  have hE : Ext ρ (Loc'.add ρ b w.heap.size (osz o)) := Ext.add hb
  have hlt : ∀ i r, ρ i = some r → r < w.heap.size := fun i r hi => by
    obtain ⟨_, _, k, o, _, h2, _⟩ := h.dom i r hi
    exact (Array.getElem?_eq_some_iff.1 h2).1
  refine ⟨h.below.on rfl rfl rfl (by simp) fun i hi => ?_, fun i r hi => ?_, fun i j r hi hj g1 g2 => ?_, fun i r q hi ho => ?_, hfull⟩
  · have := h.below.size
    have := Base.has_lt hi
    show (w.heap.push o)[i]? = _
    rw [Array.getElem?_push, if_neg (by omega)]
  · by_cases hib : i = b
    · subst hib
      rw [add_same] at hi; cases hi
      exact ⟨hbn, .inl h.below.size, k, o, hk, by simp, hd.mono hE⟩
    · rw [add_other hib] at hi
      obtain ⟨h1, h2, k', o', h3, h4, h5⟩ := h.dom i r hi
      refine ⟨by omega, h2, k', o', (hkeep i r hi).trans h3, ?_, h5.mono hE⟩
      have := hlt i r hi
      show (w.heap.push o)[r]? = _
      rw [Array.getElem?_push, if_neg (by omega), h4]
  · by_cases hib : i = b <;> by_cases hjb : j = b
    · rw [hib, hjb]
    · rw [hib, add_same] at hi; rw [add_other hjb] at hj; cases hi
      exact absurd (hlt _ _ hj) (by omega)
    · rw [hjb, add_same] at hj; rw [add_other hib] at hi; cases hj
      exact absurd (hlt _ _ hi) (by omega)
    · rw [add_other hib] at hi; rw [add_other hjb] at hj
      exact h.inj i j r hi hj (by rw [← hkeep i r hi]; exact g1) (by rw [← hkeep j r hj]; exact g2)
  · by_cases hib : i = b
    · subst hib
      rw [add_same] at hi; cases hi
      rw [add_sz]
      have h1 : (w.heap.push o)[w.heap.size]? = some o := by simp
      have h2 : (w.heap.push o)[w.heap.size]? = some q := ho
      rw [h1] at h2
      rw [Option.some.inj h2]
    · rw [add_other hib] at hi
      rw [add_szo hib]
      have := hlt i r hi
      have h2 : (w.heap.push o)[r]? = some q := ho
      rw [Array.getElem?_push, if_neg (by omega)] at h2
      exact h.size i r q hi h2
theorem MemRel.drawn {W : Base} {ρ : Loc'} {m : Mem} {w : World} (h : MemRel W ρ m w) (k : Nat) : MemRel W ρ m { w with drawn := k } :=
  ⟨h.below.on rfl rfl rfl (Nat.le_refl _) fun _ _ => rfl, h.dom, h.inj, h.size, h.full⟩

theorem MemRel.hn_none (h : MemRel W ρ m w) : ρ m.hn = none := by
  cases hc : ρ m.hn with
  | none => rfl
  | some r => have := (h.dom _ _ hc).1; omega
theorem MemRel.push {k : Blk} {o : Obj} (h : MemRel W ρ m w) (hd : DB ρ k o) : MemRel W (Loc'.add ρ m.hn w.heap.size (osz o)) (m.push k) { w with heap := w.heap.push o } := by
  refine h.fresh h.hn_none (by simp [Mem.push]) (get_ins_eq _ h.full) hd (fun i r hi => ?_) (by simp [Mem.push]) (fun i hi => ?_)
  · have := (h.dom i r hi).1
    exact get_ins_ne _ (by omega)
  · simp only [Mem.push] at hi ⊢
    by_cases hin : i = m.hn
    · subst hin; rw [get_ins_eq _ h.full]; rfl
    · rw [get_ins_ne _ (Ne.symm hin)]; exact h.full i (by omega)

theorem MemRel.upd {b r : Nat} {k : Blk} {o : Obj} (h : MemRel W ρ m w) (hb : ρ b = some r) (hng : m.hp.get b ≠ some .gone) (hd : DB ρ k o) (hsz : osz o = ρ.sz b) {w' : World} (hos : w'.os = w.os) (htape : w'.tape = w.tape) (hout : w'.output = w.output)
    (hsize : w.heap.size ≤ w'.heap.size) (hr : w'.heap[r]? = some o) (hother : ∀ i, i ≠ r → w'.heap[i]? = w.heap[i]?) : MemRel W ρ (m.upd b k) w' := by
  obtain ⟨hbn, hWr, k0, o0, hk0, ho0, _⟩ := h.dom b r hb
  have hset : ∀ i, i ≠ b → (m.upd b k).hp.get i = m.hp.get i := fun i hi => get_set_ne _ (Ne.symm hi)
  refine ⟨h.below.on hos htape hout hsize fun i hi => hother i (fun e => hi (e ▸ hWr)), fun i q hi => ?_, fun i j q hi hj g1 g2 => ?_, fun i q o' hi ho => ?_, fun i hi => ?_⟩
  · obtain ⟨h1, h2, k', o', h3, h4, h5⟩ := h.dom i q hi
    by_cases hib : i = b
    · subst hib
      rw [hb] at hi; cases hi
      exact ⟨hbn, h2, k, o, get_set_eq _ hk0, hr, hd⟩
    · by_cases hq : q = r
      · subst hq
        have hg : m.hp.get i = some .gone := by
          cases hgi : m.hp.get i with
          | none => rw [h3] at hgi; cases hgi
          | some ki =>
            by_cases hkg : ki = .gone
            · rw [hkg]
            · exact absurd (h.inj i b q hi hb (by rw [hgi]; exact fun e => hkg (Option.some.inj e)) hng) hib
        exact ⟨h1, h2, .gone, o, (hset i hib).trans hg, hr, .gone⟩
      · exact ⟨h1, h2, k', o', (hset i hib).trans h3, (hother q hq).trans h4, h5⟩
  · have g1' : m.hp.get i ≠ some .gone := by
      by_cases hib : i = b
      · rw [hib]; exact hng
      · rw [← hset i hib]; exact g1
    have g2' : m.hp.get j ≠ some .gone := by
      by_cases hib : j = b
      · rw [hib]; exact hng
      · rw [← hset j hib]; exact g2
    exact h.inj i j q hi hj g1' g2'
  · by_cases hq : q = r
    · subst hq
      rw [hr] at ho
      cases ho
      rw [hsz, ← h.size b q o0 hb ho0]; exact h.size i q o0 hi ho0
    · rw [hother q hq] at ho
      exact h.size i q o' hi ho
  · simp only [Mem.upd]
    by_cases hib : b = i
    · subst hib; rw [get_set_eq _ hk0]; rfl
    · rw [get_set_ne _ hib]; exact h.full i hi

/-- What lies in a row that was appended to goes under a new number. -/
theorem MemRel.move {b r : Nat} {k : Blk} {o : Obj} (h : MemRel W ρ m w) (hb : ρ b = some r) (hng : m.hp.get b ≠ some .gone) (hd : DB ρ k o) (hsz : osz o = ρ.sz b) {w' : World} (hos : w'.os = w.os) (htape : w'.tape = w.tape) (hout : w'.output = w.output)
    (hsize : w.heap.size ≤ w'.heap.size) (hr : w'.heap[r]? = some o) (hother : ∀ i, i ≠ r → w'.heap[i]? = w.heap[i]?) : MemRel W (Loc'.add ρ m.hn r (ρ.sz b)) ((m.upd b .gone).push k) w' := by
  have h1 := h.upd hb hng (k := .gone) .gone hsz hos htape hout hsize hr hother
  have hn := h.hn_none
  have hE : Ext ρ (Loc'.add ρ m.hn r (ρ.sz b)) := Ext.add hn
  obtain ⟨hbn, hWr, k0, _, hk0, _, _⟩ := h.dom b r hb
  have e1 : (m.upd b .gone).hn = m.hn := rfl
  have g1 : ((m.upd b .gone).push k).hp.get m.hn = some k := get_ins_eq _ h1.full
  have g2 : ∀ i, i ≠ m.hn → ((m.upd b .gone).push k).hp.get i = (m.upd b .gone).hp.get i := fun i hi => get_ins_ne _ (Ne.symm hi)
  have g3 : (m.upd b .gone).hp.get b = some .gone := get_set_eq _ hk0
  have g4 : ∀ i, i ≠ b → (m.upd b .gone).hp.get i = m.hp.get i := fun i hi => get_set_ne _ (Ne.symm hi)
  have alone : ∀ i, i ≠ m.hn → ρ i = some r → ((m.upd b .gone).push k).hp.get i ≠ some .gone → False := fun i hin hi hg => by
    rw [g2 i hin] at hg
    by_cases hib : i = b
    · rw [hib] at hg; exact hg g3
    · rw [g4 i hib] at hg; exact hib (h.inj i b r hi hb hg hng)
  refine ⟨h1.below, fun i q hi => ?_, fun i j q hi hj q1 q2 => ?_, fun i q o' hi ho => ?_, fun i hi => ?_⟩
  · by_cases hin : i = m.hn
    · subst hin
      rw [add_same] at hi; cases hi
      exact ⟨Nat.lt_succ_self _, hWr, k, o, g1, hr, hd.mono hE⟩
    · rw [add_other hin] at hi
      obtain ⟨a1, a2, k', o', a3, a4, a5⟩ := h1.dom i q hi
      exact ⟨Nat.lt_succ_of_lt a1, a2, k', o', (g2 i hin).trans a3, a4, a5.mono hE⟩
  · by_cases hin : i = m.hn <;> by_cases hjn : j = m.hn
    · rw [hin, hjn]
    · rw [hin, add_same] at hi; rw [add_other hjn] at hj; cases hi
      exact (alone j hjn hj q2).elim
    · rw [hjn, add_same] at hj; rw [add_other hin] at hi; cases hj
      exact (alone i hin hi q1).elim
    · rw [add_other hin] at hi; rw [add_other hjn] at hj
      exact h1.inj i j q hi hj (by rw [← g2 i hin]; exact q1) (by rw [← g2 j hjn]; exact q2)
  · by_cases hin : i = m.hn
    · subst hin
      rw [add_same] at hi; cases hi
      rw [hr] at ho; cases ho
      rw [add_sz]; exact hsz
    · rw [add_other hin] at hi
      rw [add_szo hin]
      exact h1.size i q o' hi ho
  · by_cases hin : i = m.hn
    · subst hin; rw [g1]; rfl
    · rw [g2 i hin]
      have hi' : i < m.hn + 1 := hi
      exact h1.full i (by show i < m.hn; omega)
theorem Keep.move {b r s : Nat} {k : Blk} (h : ρ b = some r) : Keep m.hn m ((m.upd b .gone).push k) ρ (Loc'.add ρ m.hn r s) := fun i hi hn => by
  rw [add_other (by omega)]
  refine ⟨hn, ?_⟩
  have : ((m.upd b .gone).push k).hp.get i = (m.upd b .gone).hp.get i := get_ins_ne _ (by show m.hn ≠ i; omega)
  rw [this]
  exact get_set_ne _ (fun e => by subst e; rw [h] at hn; cases hn)
/-- Cells are stored into a row. -/
theorem store_row (h : MemRel W ρ m w) {b r o : Nat} (hρ : ρ b = some r) {l cs : List C} {e : TypeId} (hl : m.hp.get b = some (.cells l e)) {vs : List Value} (hc : All2 (DC ρ) cs vs) (hle : o + cs.length ≤ l.length) :
    ∃ w', (storeCells ⟨r, o, none⟩ vs 0).run P w = .ok () w' ∧ MemRel W ρ (m.upd b (.cells (l.take o ++ (cs ++ l.drop (o + cs.length))) e)) w' := by
  obtain ⟨_, _, k, ob, hk, hob, hdb⟩ := h.dom b r hρ
  have hsz := h.size b r ob hρ hob
  rw [hl] at hk; cases hk
  cases hdb with
  | cells hcs =>
    rename_i xs tl
    have h1 := hc.length
    have h2 := hcs.length
    have hst := run_storeCells_at P r o e vs 0 (xs ++ tl).toArray w hob (by simp; omega) (fun v hv => by
      obtain ⟨i, hi, rfl⟩ := List.mem_iff_getElem.1 hv
      obtain ⟨b', hb1, hb2⟩ := hc.get (i := i) (a := cs[i]'(by omega)) (by simp [h1, hi])
      simp only [List.getElem?_eq_getElem hi, Option.some.injEq] at hb1
      subst hb1
      exact hb2.oneCell)
    refine ⟨_, hst, ?_⟩
    have hnew : All2 (DC ρ) (l.take o ++ (cs ++ l.drop (o + cs.length))) (xs.take o ++ (vs ++ xs.drop (o + vs.length))) := by
      rw [h1]
      exact (hcs.take o).append (hc.append (hcs.drop _))
    have hlist : (xs ++ tl).toArray.toList.take (o + 0) ++ vs ++ (xs ++ tl).toArray.toList.drop (o + 0 + vs.length) = (xs.take o ++ (vs ++ xs.drop (o + vs.length))) ++ tl := by
      simp only [Nat.add_zero]
      rw [List.take_append_of_le_length (by omega), List.drop_append_of_le_length (by omega)]
      simp [List.append_assoc]
    rw [hlist]
    refine h.upd hρ (by rw [hl]; simp) (DB.cells (tl := tl) hnew) ?_ rfl rfl rfl (by simp) ?_ (fun i hi => setRow_other w r i _ hi)
    · rw [← hsz]
      simp [osz]
      omega
    · exact setRow_heap w r _ _ e (0, 0) hob
/-- A part of a row, as it lies. -/
theorem load_row (h : MemRel W ρ m w) {b r o n : Nat} (hρ : ρ b = some r) {l l' : List C} {e : TypeId} (hl : m.hp.get b = some (.cells l e)) (ht : takeAt l o n = some l') :
    ∃ vs, All2 (DC ρ) l' vs ∧ l'.length = n ∧ ∀ j v, vs[j]? = some v → w.cell? ((⟨r, o, none⟩ : Addr).add j) = some v := by
  obtain ⟨hle, rfl⟩ := takeAt_some ht
  obtain ⟨_, _, k, ob, hk, hob, hdb⟩ := h.dom b r hρ
  rw [hl] at hk; cases hk
  cases hdb with
  | cells hcs =>
    rename_i xs tl
    refine ⟨(xs.drop o).take n, (hcs.drop o).take n, by simp; omega, fun j v hv => ?_⟩
    rw [add_none, cell_of hob]
    have hj : j < n := by
      have := (List.getElem?_eq_some_iff.1 hv).1
      simp at this; omega
    rw [List.getElem?_take_of_lt hj, List.getElem?_drop] at hv
    exact app_get hv

/-- What an operation that makes or writes memory comes to. -/
def MemOk (W : Base) (ρ : Loc') (m : Mem) (r : Result Next) (v : V) (m' : Mem) : Prop :=
  ∃ x w' ρ', Ext ρ ρ' ∧ Keep m.hn m m' ρ ρ' ∧ DV ρ' v x ∧ MemRel W ρ' m' w' ∧ (r = .ok (.value x) w' ∨ (r = .ok .skip w' ∧ x = undef))

theorem row_sound (h : StRel W ρ st a w) {c : C} {l : List C} (hl : rowOf st c = some l) {x : Value} (hx : DC ρ c x) :
    ∃ xs : List Value, All2 (DC ρ) l xs ∧ (Builtin.lenOf x).run P w = .ok l.length w ∧ ∀ n, n ≤ l.length → (Builtin.firstCells 1 n x).run P w = .ok (xs.take n).toArray w := by
  unfold rowOf at hl
  split at hl
  · rename_i b o n cp
    obtain ⟨r, rfl, hρ⟩ := hx.sl_inv
    split at hl
    · rename_i l0 e hb
      obtain ⟨vs, h1, h2, h3⟩ := load_row h.mem hρ hb hl
      have h4 := h1.length
      refine ⟨vs, h1, by simp [Builtin.lenOf, h2], fun q hq => ?_⟩
      have hload := run_loadCells_list (P := P) w ⟨r, o, none⟩ (vs.take q) (fun j v hv => h3 j v (by
        have hj : j < q := by
          have := (List.getElem?_eq_some_iff.1 hv).1
          simp at this; omega
        rw [List.getElem?_take_of_lt hj] at hv; exact hv))
      have hlen' : (vs.take q).length = q := by simp; omega
      rw [hlen'] at hload
      simp only [Builtin.firstCells, Nat.mul_one, hload]
    · cases hl
  · rename_i b o n s
    obtain ⟨r, c, rfl, hρ, _, _⟩ := hx.slf_inv
    split at hl
    · rename_i l0 e hb
      obtain ⟨vs, h1, h2, h3⟩ := load_row h.mem hρ hb hl
      have h4 := h1.length
      refine ⟨vs, h1, by simp [Builtin.lenOf, h2], fun q hq => ?_⟩
      have hload := run_loadCells_list (P := P) w ⟨r, o, none⟩ (vs.take q) (fun j v hv => h3 j v (by
        have hj : j < q := by
          have := (List.getElem?_eq_some_iff.1 hv).1
          simp at this; omega
        rw [List.getElem?_take_of_lt hj] at hv; exact hv))
      have hlen' : (vs.take q).length = q := by simp; omega
      rw [hlen'] at hload
      simp only [Builtin.firstCells, Nat.mul_one, hload]
    · cases hl
  · rename_i s
    have := hx.v_inv; subst this
    simp only [Option.some.injEq] at hl; subst hl
    have hsz : s.toList.length = s.size := by rw [ByteArray.toList_eq]; rfl
    refine ⟨s.toList.map fun c => .int .u8 c.toNat, ?_, by simp [Builtin.lenOf, hsz], fun q _ => ?_⟩
    · have e : (s.toList.map fun c => C.v (Value.int .u8 c.toNat)) = (s.toList.map fun c => Value.int .u8 c.toNat).map C.v := by simp
      rw [e]
      exact All2.of_map_mem _ fun y hy => by
        simp only [List.mem_map] at hy
        obtain ⟨c, _, rfl⟩ := hy
        exact .v rfl
    · simp only [Builtin.firstCells, Sem.run_pure]
      congr 1
      apply Array.ext'
      simp [ByteArray.toList_eq]
  · cases hl

theorem findE {n : Nat} : ∀ {l : List (Nat × Value × V1)} {es : List MapEntry} {e : Nat × Value × V1}, All2 (EntR ρ) l es → l.find? (fun e => Nat.beq e.1 n) = some e → ∃ me, es.find? (fun m => m.born == n) = some me ∧ EntR ρ e me
  | p :: l, m :: es, e, .cons hm hrest, h => by
    simp only [List.find?_cons] at h
    cases hb : Nat.beq p.1 n with
    | true =>
      rw [hb] at h
      simp only [Option.some.injEq] at h
      subst h
      have := beq_t hb
      have h2 : (m.born == n) = true := by rw [← hm.1]; simpa using this
      exact ⟨m, by simp [List.find?_cons, h2], hm⟩
    | false =>
      rw [hb] at h
      have := beq_f hb
      have h2 : (m.born == n) = false := by rw [← hm.1]; simpa using this
      obtain ⟨me, h3, h4⟩ := findE hrest h
      exact ⟨me, by simp [List.find?_cons, h2, h3], h4⟩
  | [], _, _, .nil, h => by simp at h
theorem infoX' {e : TypeId} {s : Nat} {z : List C} (hs : sizeX P e = some s) (hz : zeroX P e = some z) (ρ : Loc') :
    ∃ ti zv, P.info? e = some ti ∧ ti.size = s ∧ ti.zero = some zv ∧ All2 (DC ρ) z zv.cells.toList := by
  unfold sizeX at hs
  simp only [Option.map_eq_some_iff] at hs
  obtain ⟨ti, h1, h2⟩ := hs
  unfold zeroX at hz
  rw [h1] at hz
  simp only [Option.bind_some] at hz
  split at hz
  · rename_i zv hzv
    cases hc : zv.cells.toList.all (·.oneCell') with
    | false => rw [hc] at hz; cases hz
    | true =>
      rw [hc] at hz
      simp only [cond_true, Option.some.injEq] at hz
      subst hz
      exact ⟨ti, zv, h1, h2, hzv, All2.of_map_mem _ fun y hy => .v (List.all_eq_true.1 hc y hy)⟩
  · cases hz
theorem infoX {e : TypeId} {s by' : Nat} {z : List C} (hs : sizeX P e = some s) (hz : zeroX P e = some z) (hb : bytesX P e = some by') (ρ : Loc') :
    ∃ ti zv, P.info? e = some ti ∧ ti.size = s ∧ ti.zero = some zv ∧ ti.bytes = by' ∧ All2 (DC ρ) z zv.cells.toList := by
  obtain ⟨ti, zv, h1, h2, h3, h4⟩ := infoX' hs hz ρ
  refine ⟨ti, zv, h1, h2, h3, ?_, h4⟩
  unfold bytesX at hb
  rw [h1] at hb
  simpa using hb
theorem made_list (zs : Array Value) (n : Nat) : (madeCells zs n).toList = (List.range n).map fun j => zs[j % zs.size]! := by simp [madeCells]
theorem zeros_made {ρ : Loc'} {z : List C} {zs : Array Value} {s : Nat} (h : All2 (DC ρ) z zs.toList) (hl : zs.toList.length = s) : ∀ n, All2 (DC ρ) (zerosX z n) (madeCells zs (n * s)).toList
  | 0 => by rw [made_list]; simp [zerosX]; exact .nil
  | n + 1 => by
    have ih := zeros_made h hl n
    rw [made_list] at ih ⊢
    have hsz : zs.size = s := by simpa using hl
    have e1 : (n + 1) * s = s + n * s := by rw [Nat.add_mul, Nat.one_mul, Nat.add_comm]
    rw [e1, List.range_add, List.map_append, List.map_map]
    refine All2.append ?_ ?_
    · have : (List.range s).map (fun j => zs[j % zs.size]!) = zs.toList := by
        apply List.ext_getElem
        · simp [hsz]
        · intro i h1 h2
          have hi : i < zs.size := by simpa using h2
          simp [hsz, Nat.mod_eq_of_lt (show i < s by omega), getElem!_pos zs i hi]
      rw [this]; exact h
    · have : ((fun j => zs[j % zs.size]!) ∘ fun x => s + x) = fun j => zs[j % zs.size]! := by
        funext j
        simp [hsz]
      rw [this]; exact ih
theorem elems_sound (h : MemRel W ρ m w) {s n : Nat} {c : C} {l : List C} (hl : elemsX m s c = some l) (hn : countX c = some n) {x : Value} (hx : DC ρ c x) :
    ∃ vs : List Value, All2 (DC ρ) l vs ∧ l.length = n * s ∧ ((∃ r o cp, x = .slice (some ⟨r, o, none⟩) n cp ∧ ∀ j v, vs[j]? = some v → w.cell? ((⟨r, o, none⟩ : Addr).add j) = some v) ∨ (n = 0 ∧ vs = [] ∧ ∃ a k, x = .slice a 0 k)) := by
  unfold elemsX at hl
  split at hl
  · rename_i b o k cp
    simp only [countX, Option.some.injEq] at hn; subst hn
    obtain ⟨r, rfl, hρ⟩ := hx.sl_inv
    split at hl
    · rename_i l0 e hb
      obtain ⟨vs, h1, h2, h3⟩ := load_row h hρ hb hl
      exact ⟨vs, h1, h2, .inl ⟨r, o, cp, rfl, h3⟩⟩
    · cases hl
  · rename_i b o k s'
    simp only [countX, Option.some.injEq] at hn; subst hn
    obtain ⟨r, c, rfl, hρ, _, _⟩ := hx.slf_inv
    split at hl
    · rename_i l0 e hb
      obtain ⟨vs, h1, h2, h3⟩ := load_row h hρ hb hl
      exact ⟨vs, h1, h2, .inl ⟨r, o, c, rfl, h3⟩⟩
    · cases hl
  · simp only [countX, Option.some.injEq] at hn hl; subst hn; subst hl
    have := hx.v_inv; subst this
    exact ⟨[], .nil, by simp, .inr ⟨rfl, rfl, _, _, rfl⟩⟩
  · simp only [countX, Option.some.injEq] at hn hl; subst hn; subst hl
    obtain ⟨a, k, rfl⟩ := hx.emp_inv
    exact ⟨[], .nil, by simp, .inr ⟨rfl, rfl, _, _, rfl⟩⟩
  · cases hl
theorem zeros_len (z : List C) : ∀ n, (zerosX z n).length = n * z.length
  | 0 => by simp [zerosX]
  | n + 1 => by simp only [zerosX, List.length_append, zeros_len z n]; rw [Nat.add_mul, Nat.one_mul, Nat.add_comm]
theorem clear_sound (h : MemRel W ρ m w) {t e : TypeId} {ti : TypeInfo} {zv : Value} {z : List C} {c : C} {v : V} {m' : Mem} (hu : P.underlying t = some (.slice e)) (hi1 : P.info? e = some ti) (hi3 : ti.zero = some zv)
    (hz : All2 (DC ρ) z zv.cells.toList) (hzl : z.length = zv.cells.toList.length) {x : Value} (hx : DC ρ c x) (hv : clearX m z c = some (v, m')) (ty : TypeId) :
    ∃ w', Keep m.hn m m' ρ ρ ∧ DV ρ v undef ∧ MemRel W ρ m' w' ∧ (Builtin.clear_ #[t] ty #[x]).run P w = .ok undef w' := by
  have row : ∀ (b o n cp r : Nat), ρ b = some r → x = .slice (some ⟨r, o, none⟩) n cp → (bif Nat.beq n 0 then some (V.tup [], m) else match m.hp.get b with | some (.cells l e') => (putAt l o (zerosX z n)).map fun l' => (V.tup [], m.upd b (.cells l' e')) | _ => none) = some (v, m') →
      ∃ w', Keep m.hn m m' ρ ρ ∧ DV ρ v undef ∧ MemRel W ρ m' w' ∧ (Builtin.clear_ #[t] ty #[x]).run P w = .ok undef w' := by
    rintro b o n cp r hρ rfl hv
    cases hn : Nat.beq n 0 with
    | true =>
      rw [hn] at hv
      simp only [cond_true, Option.some.injEq, Prod.mk.injEq] at hv
      obtain ⟨rfl, rfl⟩ := hv
      have := beq_t hn; subst this
      exact ⟨w, Keep.refl _ _ _, DV.undef _, h, by simp [Builtin.clear_, run_underlying hu]; rfl⟩
    | false =>
      rw [hn] at hv
      simp only [cond_false] at hv
      have hn0 := beq_f hn
      split at hv
      · rename_i l e' hl
        simp only [Option.map_eq_some_iff, Prod.mk.injEq] at hv
        obtain ⟨l', hl', rfl, rfl⟩ := hv
        obtain ⟨hle, rfl⟩ := putAt_some hl'
        have hrow := zeros_made (ρ := ρ) hz rfl n
        obtain ⟨w', hst, hmem⟩ := store_row (P := P) h hρ hl hrow hle
        refine ⟨w', Keep.upd hρ, DV.undef _, hmem, ?_⟩
        have hzc : (Builtin.zeroCells zv.cells n).toList = (madeCells zv.cells (n * zv.cells.toList.length)).toList := by
          simp [Builtin.zeroCells, madeCells]
        obtain ⟨n', rfl⟩ : ∃ q, n = q + 1 := ⟨n - 1, by omega⟩
        simp [Builtin.clear_, run_underlying hu, zeroValue, typeInfo, hi1, hi3, hzc, -Array.length_toList, hst]
        rfl
      · cases hv
  unfold clearX at hv
  split at hv
  · obtain ⟨r, rfl, hρ⟩ := hx.sl_inv
    exact row _ _ _ _ r hρ rfl hv
  · obtain ⟨r, cp, rfl, hρ, _, _⟩ := hx.slf_inv
    exact row _ _ _ cp r hρ rfl hv
  · have := hx.v_inv; subst this
    simp only [Option.some.injEq, Prod.mk.injEq] at hv
    obtain ⟨rfl, rfl⟩ := hv
    exact ⟨w, Keep.refl _ _ _, DV.undef _, h, by simp [Builtin.clear_, run_underlying hu]; rfl⟩
  · cases hv
theorem run_app_room (w : World) {t ty e : TypeId} {s : Nat} (ht : P.underlying t = some (.slice e)) (hs : sizeX P e = some s) (b : Addr) (sLen sCap : Nat) (x : Value) (m : Nat) (news : List Value)
    (hx : (Builtin.lenOf x).run P w = .ok m w) (hf : (Builtin.firstCells s m x).run P w = .ok news.toArray w) (hroom : sLen + m ≤ sCap) {w' : World} (hst : (storeCells (b.add (sLen * s)) news 0).run P w = .ok () w') :
    (Builtin.append_ #[t, t] ty #[.slice (some b) sLen sCap, x]).run P w = .ok (.slice (some b) (sLen + m) sCap) w' := by
  simp [Builtin.append_, run_underlying ht, run_sizeX hs, hx, hroom, hf, hst]
theorem app_sound (h : MemRel W ρ m w) {t e : TypeId} {s by' n k : Nat} {z new : List C} {d x : C} {v : V} {m' : Mem} (hu : P.underlying t = some (.slice e)) (hs : sizeX P e = some s) (hz : zeroX P e = some z) (hb : bytesX P e = some by')
    (hzl : z.length = s) (hs0 : 0 < s) (hby : by' ≤ 1000000) (hkn : k + n ≤ 1000000) {dv xv : Value} (hd : DC ρ d dv) (hx : DC ρ x xv) (hn : countX x = some n) (hk : countX d = some k) (hnew : elemsX m s x = some new)
    (hv : appX m e s d n new = some (v, m')) (ty : TypeId) :
    ∃ y w' ρ', Ext ρ ρ' ∧ Keep m.hn m m' ρ ρ' ∧ DV ρ' v y ∧ MemRel W ρ' m' w' ∧ (Builtin.append_ #[t, t] ty #[dv, xv]).run P w = .ok y w' := by
  obtain ⟨ti, zv, hi1, hi2, hi3, hi4, hi5⟩ := infoX hs hz hb ρ
  have hzs : zv.cells.size = s := by have := hi5.length; simp at this; omega
  obtain ⟨vs, hvs, hvl, hxs⟩ := elems_sound h hnew hn hx
  have hvl' := hvs.length
  have hB : (k + n) * by' ≤ 140737488355328 := Nat.le_trans (Nat.mul_le_mul hkn hby) (by decide)
  have hlenx : (Builtin.lenOf xv).run P w = .ok n w := by
    rcases hxs with ⟨r, o, cp, rfl, _⟩ | ⟨rfl, _, _, _, rfl⟩ <;> simp [Builtin.lenOf]
  have hfirst : (Builtin.firstCells s n xv).run P w = .ok vs.toArray w := by
    rcases hxs with ⟨r, o, cp, rfl, h1⟩ | ⟨rfl, rfl, xa, xk, rfl⟩
    · exact run_firstCells_some (P := P) w s n _ n cp vs (by omega) h1
    · cases xa with
      | none => simp [Builtin.firstCells]
      | some xa => exact run_firstCells_some (P := P) w s 0 xa 0 xk [] (by simp) (fun j v hj => by simp at hj)
  unfold appX at hv
  cases hn0 : Nat.beq n 0 with
  | true =>
    simp only [hn0, cond_true] at hv
    have hn0 := beq_t hn0
    subst hn0
    have hnil : vs = [] := List.eq_nil_of_length_eq_zero (by omega)
    subst hnil
    split at hv
    · rename_i b o k' c
      cases hkc : Nat.ble k' c with
      | false => rw [hkc] at hv; cases hv
      | true =>
        simp only [hkc, cond_true, Option.some.injEq, Prod.mk.injEq] at hv
        obtain ⟨rfl, rfl⟩ := hv
        have hkc := ble_t hkc
        have hd' := hd
        obtain ⟨r, rfl, hρ⟩ := hd.sl_inv
        have hrun := run_app_room (P := P) w (ty := ty) hu hs ⟨r, o, none⟩ k' c xv 0 [] hlenx hfirst (by omega) (w' := w) (by rfl)
        exact ⟨_, w, ρ, Ext.refl _, Keep.refl _ _ _, .s (.one hd'), h, hrun⟩
    · rename_i b o k' s'
      simp only [Option.some.injEq, Prod.mk.injEq] at hv
      obtain ⟨rfl, rfl⟩ := hv
      have hd' := hd
      obtain ⟨r, c, rfl, hρ, hle, _⟩ := hd.slf_inv
      have hrun := run_app_room (P := P) w (ty := ty) hu hs ⟨r, o, none⟩ k' c xv 0 [] hlenx hfirst (by omega) (w' := w) (by rfl)
      exact ⟨_, w, ρ, Ext.refl _, Keep.refl _ _ _, .s (.one hd'), h, hrun⟩
    · simp only [Option.some.injEq, Prod.mk.injEq] at hv
      obtain ⟨rfl, rfl⟩ := hv
      have hd' := hd
      have := hd.v_inv; subst this
      refine ⟨_, w, ρ, Ext.refl _, Keep.refl _ _ _, .s (.one hd'), h, ?_⟩
      simp [Builtin.append_, run_underlying hu, run_sizeX hs, hlenx, hfirst]
    · cases hv
  | false =>
    have hnp : 0 < n := Nat.pos_of_ne_zero (beq_f hn0)
    simp only [hn0, cond_false] at hv
    obtain ⟨xr, xo, xcp, rfl, hxc⟩ : ∃ r o cp, xv = .slice (some ⟨r, o, none⟩) n cp ∧ ∀ j v, vs[j]? = some v → w.cell? ((⟨r, o, none⟩ : Addr).add j) = some v := by
      rcases hxs with h1 | ⟨h1, _⟩
      · exact h1
      · omega
    have h1c : ∀ u ∈ vs, u.oneCell' = true := fun u hu' => by
      obtain ⟨i, hi, rfl⟩ := List.mem_iff_getElem.1 hu'
      obtain ⟨b', hb1, hb2⟩ := hvs.get (i := i) (a := new[i]'(by omega)) (by simp [show i < new.length by omega])
      simp only [List.getElem?_eq_getElem hi, Option.some.injEq] at hb1
      subst hb1
      exact hb2.oneCell
    have grow : ∀ (base : Addr) (cap : Nat) (old : List C) (ovs : List Value), All2 (DC ρ) old ovs → old.length = k * s → (∀ j v, ovs[j]? = some v → w.cell? (base.add j) = some v) → cap < k + n → dv = .slice (some base) k cap →
        ∀ m1, MemRel W ρ m1 w → m1.hn = m.hn → Keep m.hn m m1 ρ ρ → v = .s (.one (.slf m.hn 0 (k + n) s)) → m' = m1.push (.cells (old ++ new) e) →
        ∃ y w' ρ', Ext ρ ρ' ∧ Keep m.hn m m' ρ ρ' ∧ DV ρ' v y ∧ MemRel W ρ' m' w' ∧ (Builtin.append_ #[t, t] ty #[dv, .slice (some ⟨xr, xo, none⟩) n xcp]).run P w = .ok y w' := by
      rintro base cap old ovs ho hol hoc hcap rfl m1 hm1 hhn hkeep rfl rfl
      have hol' := ho.length
      have hrun := run_append_grow (P := P) w t ty e ti zv hu hi1 hi3 base k cap ovs (by rw [hi2]; omega) hoc ⟨xr, xo, none⟩ n xcp vs (by rw [hi2]; omega) hxc hcap (by omega) (growslice_fits hcap (by rw [hi4]; exact hB))
      have hge := grownCap_ge w (k + n) cap e
      have hd1 := hm1.drawn (w.drawn + 1)
      have hp := hd1.push (k := .cells (old ++ new) e) (o := .cells (ovs.toArray ++ vs.toArray ++ Builtin.zeroCells zv.cells (grownCap w (k + n) cap e - (k + n))) e (0, 0)) (by
        have := DB.cells (tl := (Builtin.zeroCells zv.cells (grownCap w (k + n) cap e - (k + n))).toList) (e := e) (ho.append hvs)
        have e1 : ((ovs ++ vs) ++ (Builtin.zeroCells zv.cells (grownCap w (k + n) cap e - (k + n))).toList).toArray = ovs.toArray ++ vs.toArray ++ Builtin.zeroCells zv.cells (grownCap w (k + n) cap e - (k + n)) := by
          apply Array.ext'; simp
        rw [e1] at this; exact this)
      rw [hhn] at hp
      refine ⟨_, _, _, Ext.add h.hn_none, ?_, .s (.one (.slf (c := grownCap w (k + n) cap e) (add_same _ _ _) hge ?_)), hp, hrun⟩
      · intro i hi hin
        rw [add_other (by omega)]
        have h2 := hkeep i hi hin
        refine ⟨hin, ?_⟩
        rw [← h2.2]
        exact get_ins_ne _ (by omega)
      · rw [add_sz]
        simp only [osz, Array.size_append, List.size_toArray, size_zeroCells, hzs, Nat.zero_add]
        rw [← hol', hol, ← hvl', hvl, ← Nat.add_mul, ← Nat.add_mul]
        exact Nat.mul_le_mul_right _ (by omega)
    split at hv
    · simp only [Option.some.injEq, Prod.mk.injEq] at hv
      obtain ⟨rfl, rfl⟩ := hv
      have := hd.v_inv; subst this
      simp only [countX, Option.some.injEq] at hk; subst hk
      have hrun := run_append_nil (P := P) w t ty e ti zv hu hi1 hi3 ⟨xr, xo, none⟩ n xcp vs (by rw [hi2]; omega) hxc hnp (by omega) (by rw [hi4]; simp at hB; omega)
      have hge := grownCap_ge w n 0 e
      have hd1 := h.drawn (w.drawn + 1)
      have hp := hd1.push (k := .cells new e) (o := .cells (vs.toArray ++ Builtin.zeroCells zv.cells (grownCap w n 0 e - n)) e (0, 0)) (by
        have := DB.cells (tl := (Builtin.zeroCells zv.cells (grownCap w n 0 e - n)).toList) (e := e) hvs
        have e1 : (vs ++ (Builtin.zeroCells zv.cells (grownCap w n 0 e - n)).toList).toArray = vs.toArray ++ Builtin.zeroCells zv.cells (grownCap w n 0 e - n) := by
          apply Array.ext'; simp
        rw [e1] at this; exact this)
      refine ⟨_, _, _, Ext.add h.hn_none, Keep.push, .s (.one (.slf (c := grownCap w n 0 e) (add_same _ _ _) hge ?_)), hp, hrun⟩
      rw [add_sz]
      simp only [osz, Array.size_append, List.size_toArray, size_zeroCells, hzs, Nat.zero_add]
      rw [← hvl', hvl, ← Nat.add_mul]
      exact Nat.mul_le_mul_right _ (by omega)
    · rename_i b o k' c
      simp only [countX, Option.some.injEq] at hk; subst hk
      split at hv
      · rename_i old hold
        have hd' := hd
        obtain ⟨r, rfl, hρ⟩ := hd.sl_inv
        cases hkc : Nat.ble (k' + n) c with
        | true =>
          simp only [hkc, cond_true] at hv
          have hkc := ble_t hkc
          split at hv
          · rename_i l e' hl
            simp only [Option.map_eq_some_iff, Prod.mk.injEq] at hv
            obtain ⟨l', hl', rfl, rfl⟩ := hv
            obtain ⟨hle, rfl⟩ := putAt_some hl'
            obtain ⟨w', hst, hmem⟩ := store_row (P := P) h hρ hl hvs hle
            have hrun := run_app_room (P := P) w (ty := ty) hu hs ⟨r, o, none⟩ k' c _ n vs hlenx hfirst hkc (w' := w') (by rw [add_none]; exact hst)
            exact ⟨_, w', ρ, Ext.refl _, Keep.upd hρ, .s (.one (.sl hρ)), hmem, hrun⟩
          · cases hv
        | false =>
          simp only [hkc, cond_false, Option.some.injEq, Prod.mk.injEq] at hv
          obtain ⟨rfl, rfl⟩ := hv
          have hkc := ble_f hkc
          obtain ⟨ovs, ho1, ho2, ho3⟩ := elems_sound h hold rfl hd'
          rcases ho3 with ⟨r', o', cp', he, ho4⟩ | ⟨hk0, hov, _⟩
          · cases he
            exact grow ⟨r, o, none⟩ c old ovs ho1 ho2 ho4 hkc rfl m h rfl (Keep.refl _ _ _) rfl rfl
          · exact grow ⟨r, o, none⟩ c old ovs ho1 ho2 (fun j v hj => by rw [hov] at hj; simp at hj) hkc rfl m h rfl (Keep.refl _ _ _) rfl rfl
      · cases hv
    · rename_i b k' s'
      simp only [countX, Option.some.injEq] at hk; subst hk
      split at hv
      · rename_i old hold
        cases hss : Nat.beq s s' && typeAt m b e with
        | false => rw [hss] at hv; cases hv
        | true =>
          simp only [hss, cond_true, Option.some.injEq, Prod.mk.injEq] at hv
          obtain ⟨rfl, rfl⟩ := hv
          simp only [Bool.and_eq_true] at hss
          obtain ⟨hss, hty⟩ := hss
          have hss := beq_t hss
          subst hss
          have hd' := hd
          obtain ⟨r, c, rfl, hρ, hle, hfit⟩ := hd.slf_inv
          obtain ⟨ovs, ho1, ho2, ho3⟩ := elems_sound h hold rfl hd'
          obtain ⟨_, _, k0, ob, hk0, hob, hdb⟩ := h.dom b r hρ
          have hosz := h.size b r ob hρ hob
          have hng : m.hp.get b ≠ some .gone := by
            unfold elemsX at hold
            simp only at hold
            intro hg
            rw [hg] at hold
            cases hold
          have ho4 : ∀ (j : Nat) (v : Value), ovs[j]? = some v → w.cell? ((⟨r, 0, none⟩ : Addr).add j) = some v := by
            rcases ho3 with ⟨r', o', cp', he, ho4⟩ | ⟨_, hov, _⟩
            · cases he; exact ho4
            · intro j v hj; rw [hov] at hj; simp at hj
          by_cases hroom : k' + n ≤ c
          · unfold elemsX at hold
            simp only at hold
            split at hold
            · rename_i l0 e0 hget
              rw [hget] at hk0; cases hk0
              unfold typeAt at hty
              rw [hget] at hty
              have hty : e0 = e := beq_t hty
              subst hty
              cases hdb with
              | cells hcs =>
                rename_i xs tl
                obtain ⟨htl, rfl⟩ := takeAt_some hold
                have hlx := hcs.length
                have hovl := ho1.length
                have hsz' : xs.length + tl.length = ρ.sz b := by simpa [osz] using hosz
                have hck : (k' + n) * s ≤ c * s := Nat.mul_le_mul_right _ hroom
                rw [Nat.add_mul] at hck
                have hst := run_storeCells_at P r (0 + k' * s) e0 vs 0 (xs ++ tl).toArray w hob (by simp; omega) h1c
                have hrun := run_app_room (P := P) w (ty := ty) hu hs ⟨r, 0, none⟩ k' c _ n vs hlenx hfirst hroom (by rw [add_none]; exact hst)
                have hov : ovs = xs.take (k' * s) := by
                  apply List.ext_getElem?
                  intro j
                  by_cases hj : j < k' * s
                  · have hj1 : j < ovs.length := by omega
                    have e1 := ho4 j ovs[j] (by simp [hj1])
                    rw [add_none, cell_of hob, Nat.zero_add, List.getElem?_append_left (by omega)] at e1
                    rw [List.getElem?_take_of_lt hj, e1]; simp [hj1]
                  · rw [List.getElem?_eq_none (by omega), List.getElem?_eq_none (by simp; omega)]
                subst hov
                have hlist : (xs ++ tl).toArray.toList.take (0 + k' * s + 0) ++ vs ++ (xs ++ tl).toArray.toList.drop (0 + k' * s + 0 + vs.length) = (xs.take (k' * s) ++ vs) ++ ((xs ++ tl).drop (k' * s + vs.length)) := by
                  simp only [Nat.zero_add, Nat.add_zero]
                  rw [List.take_append_of_le_length (by omega)]
                rw [hlist] at hrun
                have hmv := h.move hρ hng (k := .cells ((l0.drop 0).take (k' * s) ++ new) e0) (DB.cells (tl := (xs ++ tl).drop (k' * s + vs.length)) (ho1.append hvs)) (o := .cells ((xs.take (k' * s) ++ vs) ++ ((xs ++ tl).drop (k' * s + vs.length))).toArray e0 (0, 0)) (by
                  rw [← hosz]; simp [osz]; omega) (w' := w.setRow r ((xs.take (k' * s) ++ vs) ++ ((xs ++ tl).drop (k' * s + vs.length))).toArray) rfl rfl rfl (by simp) (setRow_heap w r _ _ e0 (0, 0) hob) (fun i hi => setRow_other w r i _ hi)
                refine ⟨_, _, _, Ext.add h.hn_none, Keep.move hρ, .s (.one (.slf (c := c) (add_same _ _ _) hroom (by rw [add_sz]; omega))), ?_, hrun⟩
                exact hmv
            · cases hold
          · have hm1 := h.upd hρ hng (k := .gone) (o := ob) .gone hosz (w' := w) rfl rfl rfl (Nat.le_refl _) hob (fun _ _ => rfl)
            exact grow ⟨r, 0, none⟩ c old ovs ho1 ho2 ho4 (by omega) rfl (m.upd b .gone) hm1 rfl (Keep.upd hρ) rfl rfl
      · cases hv
    · cases hv
theorem mem_sound (h : StRel W ρ st a w) {o : Oper} {v : V} {m' : Mem} (hv : memX P st o = some (v, m')) : MemOk W ρ st.m ((execOp a.eval o).run P w) v m' := by
  obtain ⟨dst, op, type, pos, after, guard⟩ := o
  unfold memX at hv
  simp only at hv
  split at hv
  case h_1 t =>
    split at hv
    · rename_i z hz
      simp only [Option.some.injEq, Prod.mk.injEq] at hv
      obtain ⟨rfl, rfl⟩ := hv
      obtain ⟨zv, h1, h2⟩ := run_zeroX hz w ρ
      have hp := h.mem.push (k := .cells z t) (o := .cells zv.cells t (0, 0)) (by have := DB.cells' (e := t) h2; simpa using this)
      refine ⟨_, _, _, Ext.add h.mem.hn_none, Keep.push, .s (.one (.ptr (add_same _ _ _))), hp, .inl ?_⟩
      simp [execOp, Instr.alloc, h1, newVar, newRow]
    · cases hv
  case h_2 t x =>
    split at hv
    · rename_i y hy
      simp only [Option.some.injEq, Prod.mk.injEq] at hv
      obtain ⟨rfl, rfl⟩ := hv
      have hc := (ev1_sound h hy).cells
      have hp := h.mem.push (k := .cells y.cells t) (o := .cells (a.eval x).cells t (0, 0)) (by have := DB.cells' (e := t) hc; simpa using this)
      refine ⟨_, _, _, Ext.add h.mem.hn_none, Keep.push, .s (.one (.ptr (add_same _ _ _))), hp, .inl ?_⟩
      simp [execOp, Instr.box, newVar, newRow]
    · cases hv
  case h_3 t x y =>
    split at hv
    · rename_i b o' y' s hb hy hs
      cases hc : Nat.beq y'.cells.length s && oneCells y'.cells with
      | false => simp [hc] at hv
      | true =>
        simp only [hc, cond_true] at hv
        split at hv
        · rename_i l e hl
          simp only [Option.map_eq_some_iff, Prod.mk.injEq] at hv
          obtain ⟨l', hl', rfl, rfl⟩ := hv
          obtain ⟨hle, rfl⟩ := putAt_some hl'
          obtain ⟨r, hr, hρ⟩ := (evc_sound h hb).ptr_inv
          have hyc := (ev1_sound h hy).cells
          simp only [Bool.and_eq_true] at hc
          have hlen := beq_t hc.1
          have h1 := hyc.length
          simp only [Array.length_toList] at h1
          obtain ⟨w', hst, hmem⟩ := store_row (P := P) h.mem hρ hl hyc hle
          refine ⟨undef, w', ρ, Ext.refl _, Keep.upd hρ, DV.undef _, hmem, .inr ⟨?_, rfl⟩⟩
          simp only [execOp, Instr.storeAt, hr, Instr.sureAddr, storeVar, Sem.run_bind, Sem.run_pure, Result.andThen_ok, run_sizeX hs]
          rw [if_neg (by omega), hst]
          simp
        · cases hv
    · cases hv
  case h_4 t =>
    split at hv
    · rename_i kt et hu
      simp only [Option.some.injEq, Prod.mk.injEq] at hv
      obtain ⟨rfl, rfl⟩ := hv
      have hp := h.mem.push (k := .map [] 0) (o := .map #[] 0) (DB.map (es := []) .nil)
      refine ⟨_, _, _, Ext.add h.mem.hn_none, Keep.push, .s (.one (.mp (add_same _ _ _))), hp, .inl ?_⟩
      simp [execOp, Instr.makeMap]
    · cases hv
  case h_5 t mm k x =>
    split at hv
    · rename_i kt et b kx y hu hm hk hx
      split at hv
      · rename_i kd l c0 hkt hl
        cases hko : keyOk kd kx with
        | false => rw [hko] at hv; cases hv
        | true =>
          rw [hko] at hv
          simp only [cond_true] at hv
          obtain ⟨r, hr, hρ⟩ := (evc_sound h hm).mp_inv
          have hki := (evc_sound h hk).v_inv
          have hxd := ev1_sound h hx
          obtain ⟨_, _, k0, ob, hk0, hob, hdb⟩ := h.mem.dom b r hρ
          rw [hl] at hk0; cases hk0
          cases hdb with
          | map hes =>
            rename_i es
            have hget : (getObj r).run P w = .ok (.map es.toArray c0) w := by simp [getObj, Sem.run, hob]
            have hck : (Instr.checkKey false 10000 kt kx).run P w = .ok () w := checkKey_ok 9999 false hkt hko
            have hlt : r < w.heap.size := (Array.getElem?_eq_some_iff.1 hob).1
            have hset : ∀ o, (setObj r o).run P w = .ok () { w with heap := w.heap.setIfInBounds r o } := fun o => by simp [setObj, Sem.run, hob]
            split at hv
            · rename_i hc
              have hfind := findK_none hko 0 hes hc
              simp only [Option.some.injEq, Prod.mk.injEq] at hv
              obtain ⟨rfl, rfl⟩ := hv
              refine ⟨undef, { w with heap := w.heap.setIfInBounds r (.map (es.toArray.push { key := kx, val := a.eval x, born := c0 }) (c0 + 1)) }, ρ, Ext.refl _, Keep.upd hρ, DV.undef _, ?_, .inr ⟨?_, rfl⟩⟩
              · refine h.mem.upd hρ (by rw [hl]; simp) (o := .map (es ++ [({ key := kx, val := a.eval x, born := c0 } : MapEntry)]).toArray (c0 + 1)) (DB.map (hes.append (.cons ⟨rfl, rfl, hxd⟩ .nil))) (by have := h.mem.size b r _ hρ hob; exact this) rfl rfl rfl (by simp) ?_ (fun j hj => by simp [Array.getElem?_setIfInBounds_ne (Ne.symm hj)])
                simp [hlt]
              · simp [execOp, Instr.mapUpdate, run_underlying hu, hr, hget, hki, hck, Instr.findKey, run_underlying hkt, hfind, hset]
            · cases hv
      · cases hv
    · cases hv
  case h_6 t x =>
    split at hv
    · rename_i s hu hs
      simp only [Option.some.injEq, Prod.mk.injEq] at hv
      obtain ⟨rfl, rfl⟩ := hv
      have hx := (evc_sound h hs).v_inv
      have hp := h.mem.push (k := .iter s 0) (o := .stringIter s 0) .iter
      refine ⟨_, _, _, Ext.add h.mem.hn_none, Keep.push, .s (.one (.ptr (add_same _ _ _))), hp, .inl ?_⟩
      simp [execOp, Instr.range, run_underlying hu, hx]
    · rename_i kt et b hu hs
      split at hv
      · rename_i l c hl
        simp only [Option.some.injEq, Prod.mk.injEq] at hv
        obtain ⟨rfl, rfl⟩ := hv
        obtain ⟨r, hr, hρ⟩ := (evc_sound h hs).mp_inv
        obtain ⟨_, _, k0, ob, hk0, hob, hdb⟩ := h.mem.dom b r hρ
        rw [hl] at hk0; cases hk0
        cases hdb with
        | map hes =>
          rename_i es
          have hget : (getObj r).run P w = .ok (.map es.toArray c) w := by simp [getObj, Sem.run, hob]
          have hp := h.mem.push (k := .mit b c .fresh) (o := .mapIter (some r) c #[] c) (.mit hρ (Nat.le_refl _) rfl)
          refine ⟨_, _, _, Ext.add h.mem.hn_none, Keep.push, .s (.one (.ptr (add_same _ _ _))), hp, .inl ?_⟩
          simp [execOp, Instr.range, run_underlying hu, hr, hget]
      · cases hv
    · cases hv
  case h_7 it =>
    split at hv
    · rename_i b hb
      obtain ⟨r, hr, hρ⟩ := (evc_sound h hb).ptr_inv
      split at hv
      · rename_i s pos' hl
        obtain ⟨_, _, k0, ob, hk0, hob, hdb⟩ := h.mem.dom b r hρ
        rw [hl] at hk0; cases hk0
        cases hdb
        have hget : (getObj r).run P w = .ok (.stringIter s pos') w := by simp [getObj, Sem.run, hob]
        have hlt : r < w.heap.size := (Array.getElem?_eq_some_iff.1 hob).1
        cases hp : Nat.blt pos' s.size with
        | true =>
          simp only [hp, cond_true, Option.some.injEq, Prod.mk.injEq] at hv
          obtain ⟨rfl, rfl⟩ := hv
          have hlt' : pos' < s.size := ble_t hp
          have hset : ∀ o, (setObj r o).run P w = .ok () { w with heap := w.heap.setIfInBounds r o } := fun o => by simp [setObj, Sem.run, hob]
          refine ⟨.tuple #[.bool true, goInt pos', .int .i32 (Utf8.decode s pos').1], { w with heap := w.heap.setIfInBounds r (.stringIter s (pos' + (Utf8.decode s pos').2)) }, ρ, Ext.refl _, Keep.upd hρ, .tup (xs := [_, _, _]) (.cons (.one (.v rfl)) (.cons (.one (.v rfl)) (.cons (.one (.v rfl)) .nil))), ?_, .inl ?_⟩
          · exact h.mem.upd hρ (by rw [hl]; simp) (o := .stringIter s (pos' + (Utf8.decode s pos').2)) .iter (by have := h.mem.size b r _ hρ hob; exact this) rfl rfl rfl (by simp) (by simp [hlt]) (fun j hj => by simp [Array.getElem?_setIfInBounds_ne (Ne.symm hj)])
          · simp [execOp, Instr.next, hr, hget, hlt', hset]
        | false =>
          simp only [hp, cond_false, Option.some.injEq, Prod.mk.injEq] at hv
          obtain ⟨rfl, rfl⟩ := hv
          have hge : ¬ pos' < s.size := by have := ble_f hp; omega
          refine ⟨.tuple #[.bool false], w, ρ, Ext.refl _, Keep.refl _ _ _, .tup (xs := [_]) (.cons (.one (.v rfl)) .nil), h.mem, .inl ?_⟩
          simp [execOp, Instr.next, hr, hget, hge]
      · cases hv
    · cases hv
  case h_8 _ args ts =>
    split at hv
    · rename_i d s t hargs ht
      split at hv
      · rename_i b o' n cp y e hd hy hu
        split at hv
        · rename_i cs l e' hsz hrow hl
          cases hc : oneCells (cs.take n) with
          | false => simp [hc] at hv
          | true =>
            simp only [hc, cond_true, Option.map_eq_some_iff, Prod.mk.injEq] at hv
            obtain ⟨l', hl', rfl, rfl⟩ := hv
            obtain ⟨hle, rfl⟩ := putAt_some hl'
            obtain ⟨r, hr, hρ⟩ := (evc_sound h hd).sl_inv
            obtain ⟨xs, hxs, hlen, hfirst⟩ := row_sound (P := P) h hrow (evc_sound h hy)
            have ea : args = #[d, s] := by apply Array.ext'; simpa using hargs
            subst ea
            have h1 := hxs.length
            have hf := hfirst (min cs.length n) (by omega)
            have htk : xs.take (min cs.length n) = xs.take n := by
              rcases Nat.le_total n cs.length with hle' | hle'
              · rw [Nat.min_eq_right hle']
              · rw [Nat.min_eq_left hle', List.take_of_length_le (by omega), List.take_of_length_le (by omega)]
            obtain ⟨w', hst, hmem⟩ := store_row (P := P) h.mem hρ hl (hxs.take n) hle
            refine ⟨goInt (min cs.length n : Nat), w', ρ, Ext.refl _, Keep.upd hρ, .s (.one (.v rfl)), hmem, .inl ?_⟩
            have hmin : Nat.min cs.length n = min cs.length n := rfl
            simp [execOp, resolve, invoke, builtin, Builtin.copy_, ht, run_underlying hu, hr, hlen, run_sizeX hsz, hmin, hf, htk, hst]
        · cases hv
      · cases hv
    · cases hv
  case h_9 t l c =>
    split at hv
    · rename_i e kl i kc j hu hl hc
      split at hv
      · rename_i s z by' hs hz hb
        split at hv
        · rename_i hcond
          obtain ⟨c1, c2, c3, c4, c5⟩ := hcond
          simp only [Option.some.injEq, Prod.mk.injEq] at hv
          obtain ⟨rfl, rfl⟩ := hv
          have el := (evc_sound h hl).v_inv
          have ec := (evc_sound h hc).v_inv
          obtain ⟨ti, zv, hi1, hi2, hi3, hi4, hi5⟩ := infoX hs hz hb ρ
          have hlen := hi5.length
          have hrun := run_make (P := P) w t e ti zv hu hi1 hi3 kl kc i j c1 c2 (by
            rw [hi4]
            have : (by' : Int) * j ≤ 1000000 * 100000 := Int.mul_le_mul (by omega) c3 (by omega) (by omega)
            omega) (by omega)
          rw [hi2] at hrun
          have hrow := zeros_made (ρ := ρ) hi5 (by simpa using (show zv.cells.toList.length = s by omega)) j.toNat
          have hp := h.mem.push (k := .cells (zerosX z j.toNat) e) (o := .cells (madeCells zv.cells (j.toNat * s)) e (0, 0)) (by have := DB.cells' (e := e) hrow; simpa using this)
          refine ⟨_, _, _, Ext.add h.mem.hn_none, Keep.push, .s (.one (.sl (add_same _ _ _))), hp, .inl ?_⟩
          simp only [execOp, el, ec, Sem.run_bind, hrun]
          rfl
        · cases hv
      · cases hv
    · cases hv
  case h_10 t n ps =>
    split at hv
    · rename_i e l hu hps
      split at hv
      · rename_i s z hs hz
        cases hb : Nat.ble n 10000 && Nat.ble s 1000 && Nat.blt 0 s && Nat.beq z.length s with
        | false => simp [hb] at hv
        | true =>
          simp only [hb, cond_true, Option.map_eq_some_iff, Prod.mk.injEq] at hv
          obtain ⟨cells, hf, rfl, rfl⟩ := hv
          simp only [Bool.and_eq_true] at hb
          obtain ⟨⟨⟨b1, b2⟩, b3⟩, b4⟩ := hb
          have b1 := ble_t b1
          have b2 := ble_t b2
          have b3 : 0 < s := ble_t b3
          have b4 := beq_t b4
          obtain ⟨ti, zv, hi1, hi2, hi3, hi5⟩ := infoX' hs hz ρ
          have hlen := hi5.length
          have hrow := zeros_made (ρ := ρ) hi5 (by simpa using (show zv.cells.toList.length = s by omega)) n
          obtain ⟨ys, h1, h2⟩ := fill_sound (place := fun i => some (i * s, s)) (fun _ _ hq => hq) (parts_sound h hps) hrow hf
          have hp := h.mem.push (k := .cells cells e) (o := .cells ys.toArray e (0, 0)) (DB.cells' h2)
          refine ⟨_, _, _, Ext.add h.mem.hn_none, Keep.push, .s (.one (.sl (add_same _ _ _))), hp, .inl ?_⟩
          have hns : n * s ≤ 10000 * 1000 := Nat.mul_le_mul b1 b2
          simp only [Array.toArray_toList] at h1
          by_cases hn : n = 0
          · subst hn
            have hpz : Instr.fill (fun i => some (i * s, s)) #[] (ps.toList.map fun (i, x) => (i, a.eval x)) = some ys.toArray := by
              have hm0 : madeCells zv.cells (0 * s) = #[] := by rw [Nat.zero_mul]; simp [madeCells, Array.range_zero']
              rw [hm0] at h1
              exact h1
            have e1 : (ps.map fun (x : Nat × Operand) => (x.1, a.eval x.2)).toList = ps.toList.map fun (i, x) => (i, a.eval x) := by simp
            simp [execOp, Instr.buildSlice, run_underlying hu, run_sizeX hs, Array.range_zero', hpz, newRow]
          · have hpos : ¬ n * ti.size = 0 := by rw [hi2]; exact fun q => by rcases Nat.mul_eq_zero.1 q with q | q <;> omega
            have hrun := run_buildSlice (P := P) w t e n (ps.map fun (i, x) => (i, a.eval x)) ys.toArray ti zv hu hi1 hi3 (by rw [hi2]; omega) hpos (by
              rw [hi2]
              have e1 : (ps.map fun (x : Nat × Operand) => (x.1, a.eval x.2)).toList = ps.toList.map fun (i, x) => (i, a.eval x) := by simp
              rw [e1]; exact h1)
            simp only [execOp, Sem.run_bind, hrun]
            rfl
      · cases hv
    · cases hv
  case h_11 _ args ts =>
    split at hv
    · rename_i d x t t' hargs hts
      split at hv
      · rename_i cd cx e hd hx hu
        split at hv
        · rename_i s by' n k hs hb hn hk
          split at hv
          · rename_i new z hnew hz
            cases hb' : Nat.beq t t' && Nat.ble (k + n) 1000000 && Nat.ble by' 1000000 && Nat.blt 0 s && Nat.beq z.length s with
            | false => simp [hb'] at hv
            | true =>
              simp only [hb', cond_true] at hv
              simp only [Bool.and_eq_true] at hb'
              obtain ⟨⟨⟨⟨b1, b2⟩, b3⟩, b4⟩, b5⟩ := hb'
              have b1 := beq_t b1
              subst b1
              have b2 := ble_t b2
              have b3 := ble_t b3
              have b4 : 0 < s := ble_t b4
              have b5 := beq_t b5
              have ea : args = #[d, x] := by apply Array.ext'; simpa using hargs
              have et : ts = #[t, t] := by apply Array.ext'; simpa using hts
              subst ea
              subst et
              obtain ⟨y, w', ρ', g1, g2, g3, g4, g5⟩ := app_sound (P := P) h.mem hu hs hz hb b5 b4 b3 b2 (evc_sound h hd) (evc_sound h hx) hn hk hnew hv type
              refine ⟨y, w', ρ', g1, g2, g3, g4, .inl ?_⟩
              simp [execOp, resolve, invoke, builtin, g5]
          · cases hv
        · cases hv
      · cases hv
    · cases hv
  case h_12 _ args ts =>
    split at hv
    · rename_i x t hargs hts
      split at hv
      · rename_i c e hx hu
        split at hv
        · rename_i s z hs hz
          cases hb : Nat.beq z.length s with
          | false => rw [hb] at hv; cases hv
          | true =>
            simp only [hb, cond_true] at hv
            have hb := beq_t hb
            have ea : args = #[x] := by apply Array.ext'; simpa using hargs
            have et : ts = #[t] := by apply Array.ext'; simpa using hts
            subst ea
            subst et
            obtain ⟨ti, zv, hi1, hi2, hi3, hi5⟩ := infoX' hs hz ρ
            have hlen := hi5.length
            obtain ⟨w', g1, g2, g3⟩ := clear_sound (P := P) h.mem hu hi1 hi3 hi5 (by omega) (evc_sound h hx) hv type
            exact ⟨undef, w', ρ, Ext.refl _, g1, g2, g3.1, .inl (by simp [execOp, resolve, invoke, builtin, g3.2])⟩
        · cases hv
      · cases hv
    · cases hv
  case h_13 t mm k x =>
    split at hv
    · rename_i kt et b kx y hu hm hk hx
      split at hv
      · rename_i kd l c0 hkt hl
        cases hko : keyOk kd kx with
        | false => rw [hko] at hv; cases hv
        | true =>
          rw [hko] at hv
          simp only [cond_true] at hv
          obtain ⟨r, hr, hρ⟩ := (evc_sound h hm).mp_inv
          have hki := (evc_sound h hk).v_inv
          have hxd := ev1_sound h hx
          obtain ⟨_, _, k0, ob, hk0, hob, hdb⟩ := h.mem.dom b r hρ
          rw [hl] at hk0; cases hk0
          cases hdb with
          | map hes =>
            rename_i es
            have hget : (getObj r).run P w = .ok (.map es.toArray c0) w := by simp [getObj, Sem.run, hob]
            have hck : (Instr.checkKey false 10000 kt kx).run P w = .ok () w := checkKey_ok 9999 false hkt hko
            have hlt : r < w.heap.size := (Array.getElem?_eq_some_iff.1 hob).1
            have hset : ∀ o, (setObj r o).run P w = .ok () { w with heap := w.heap.setIfInBounds r o } := fun o => by simp [setObj, Sem.run, hob]
            split at hv
            · rename_i hc
              have hfind := findK_none hko 0 hes hc
              simp only [Option.some.injEq, Prod.mk.injEq] at hv
              obtain ⟨rfl, rfl⟩ := hv
              refine ⟨undef, { w with heap := w.heap.setIfInBounds r (.map (es.toArray.push { key := kx, val := a.eval x, born := c0 }) (c0 + 1)) }, ρ, Ext.refl _, Keep.upd hρ, DV.undef _, ?_, .inr ⟨?_, rfl⟩⟩
              · refine h.mem.upd hρ (by rw [hl]; simp) (o := .map (es ++ [({ key := kx, val := a.eval x, born := c0 } : MapEntry)]).toArray (c0 + 1)) (DB.map (hes.append (.cons ⟨rfl, rfl, hxd⟩ .nil))) (by have := h.mem.size b r _ hρ hob; exact this) rfl rfl rfl (by simp) ?_ (fun j hj => by simp [Array.getElem?_setIfInBounds_ne (Ne.symm hj)])
                simp [hlt]
              · simp [execOp, Instr.mapUpdate, run_underlying hu, hr, hget, hki, hck, Instr.findKey, run_underlying hkt, hfind, hset]
            · rename_i i v0 hc
              obtain ⟨n, v1, e, hin, _, hfind, hen, hek⟩ := findK_some hko 0 hes hc
              rw [Nat.zero_add] at hin
              subst hin
              simp only [Option.some.injEq, Prod.mk.injEq] at hv
              obtain ⟨rfl, rfl⟩ := hv
              have hmod : es.toArray.modify i (fun e' => { e' with key := kx, val := a.eval x }) = (es.set i { e with val := a.eval x }).toArray := by
                apply Array.ext'
                apply List.ext_getElem?
                intro j
                have hn : i < es.length := (List.getElem?_eq_some_iff.1 hen).1
                simp only [Array.getElem?_toList, Array.getElem?_modify, List.getElem?_set, List.getElem?_toArray]
                by_cases hnj : i = j
                · subst hnj
                  have he : es[i] = e := (List.getElem?_eq_some_iff.1 hen).2
                  simp [hn, ← hek, he]
                · simp [hnj]
              refine ⟨undef, { w with heap := w.heap.setIfInBounds r (.map (es.toArray.modify i fun e' => { e' with key := kx, val := a.eval x }) c0) }, ρ, Ext.refl _, Keep.upd hρ, DV.undef _, ?_, .inr ⟨?_, rfl⟩⟩
              · refine h.mem.upd hρ (by rw [hl]; simp) (o := .map (es.set i { e with val := a.eval x }).toArray c0) (DB.map (setV_sound hxd hes hen)) (by have := h.mem.size b r _ hρ hob; exact this) rfl rfl rfl (by simp) ?_ (fun j hj => by simp [Array.getElem?_setIfInBounds_ne (Ne.symm hj)])
                rw [hmod]
                simp [hlt]
              · have hst : (Instr.keyThatStays kx kx).run P w = .ok kx w := by
                  have hb : Instr.sameBits 10000 kx kx = true := by cases kd <;> cases kx <;> simp only [keyOk] at hko <;> first | (cases hko; done) | (simp [Instr.sameBits]; done) | simp [Instr.sameBits, bytes_beq]
                  simp [Instr.keyThatStays, hb]
                simp [execOp, Instr.mapUpdate, run_underlying hu, hr, hget, hki, hck, Instr.findKey, run_underlying hkt, hfind, hset, hen, hek, hst]
            · cases hv
      · cases hv
    · cases hv
  case h_14 _ args ts =>
    split at hv
    · rename_i x t hargs hts
      split at hv
      · rename_i b kt et hx hu
        split at hv
        · rename_i l c0 hl
          simp only [Option.some.injEq, Prod.mk.injEq] at hv
          obtain ⟨rfl, rfl⟩ := hv
          have ea : args = #[x] := by apply Array.ext'; simpa using hargs
          have et' : ts = #[t] := by apply Array.ext'; simpa using hts
          subst ea
          subst et'
          obtain ⟨r, hr, hρ⟩ := (evc_sound h hx).mp_inv
          obtain ⟨_, _, k0, ob, hk0, hob, hdb⟩ := h.mem.dom b r hρ
          rw [hl] at hk0; cases hk0
          cases hdb with
          | map hes =>
            rename_i es
            have hlen := hes.length
            have hget : (getObj r).run P w = .ok (.map es.toArray c0) w := by simp [getObj, Sem.run, hob]
            refine ⟨goInt l.length, w, ρ, Ext.refl _, Keep.refl _ _ _, .s (.one (.v rfl)), h.mem, .inl ?_⟩
            simp [execOp, resolve, invoke, builtin, Builtin.len_, run_underlying hu, hr, hget, hlen]
        · cases hv
      · cases hv
    · cases hv
  case h_15 it =>
    split at hv
    · rename_i b hb
      obtain ⟨r, hr, hρ⟩ := (evc_sound h hb).ptr_inv
      split at hv
      · rename_i bm since n c hl
        split at hv
        · rename_i l c' hlm
          cases hc : Nat.beq c' c with
          | false => rw [hc] at hv; cases hv
          | true =>
            rw [hc] at hv
            simp only [cond_true] at hv
            have hc := beq_t hc
            subst hc
            split at hv
            · rename_i e he
              cases h1 : e.2.1.oneCell' with
              | false => rw [h1] at hv; cases hv
              | true =>
                rw [h1] at hv
                simp only [cond_true, Option.some.injEq, Prod.mk.injEq] at hv
                obtain ⟨rfl, rfl⟩ := hv
                obtain ⟨_, _, k0, ob, hk0, hob, hdb⟩ := h.mem.dom b r hρ
                rw [hl] at hk0; cases hk0
                cases hdb with
                | mit hbm hsc hit =>
                  rename_i rm c0 seen
                  obtain ⟨rfl, rfl⟩ := hit
                  obtain ⟨_, _, k1, ob1, hk1, hob1, hdb1⟩ := h.mem.dom bm rm hbm
                  rw [hlm] at hk1; cases hk1
                  cases hdb1 with
                  | map hes =>
                    rename_i es
                    obtain ⟨me, h2, h3⟩ := findE hes he
                    have hget : (getObj r).run P w = .ok (.mapIter (some rm) since (ρ.it.push n) c0) w := by simp [getObj, Sem.run, hob]
                    have hget1 : (getObj rm).run P w = .ok (.map es.toArray c0) w := by simp [getObj, Sem.run, hob1]
                    refine ⟨.tuple #[me.key, me.val], w, ρ, Ext.refl _, Keep.refl _ _ _, .tup (xs := [_, _]) (.cons (.one (by rw [← h3.2.1]; exact .v h1)) (.cons h3.2.2 .nil)), h.mem, .inl ?_⟩
                    simp [execOp, Instr.entry, hr, hget, hget1, h2]
            · cases hv
        · cases hv
      · cases hv
    · cases hv
  case h_16 => cases hv
end
end Go.Ry
namespace Go.Ry
open Go Go.RowKit

structure EnvOk (E : Env) (W : Base) : Prop where
  mixed : E.P.follows .mixedOrders = true
  name : ∀ (f : FuncId) (fn : Func), E.P.funcs[f]? = some fn → (fn.name == "runtime.NumGoroutine") = false
  ext : ∀ f l v, E.ext f l = some v → ∀ (ρ : Loc') (xs : List Value), ρ.val = E.val → All2 (D1 ρ) l xs → ∃ x, DV ρ v x ∧ ∀ w, (callFunc f xs.toArray).run E.P w = .ok (.value x) w
  sum : ∀ f l v, E.sum f l = some v → ∀ (ρ : Loc') (xs : List Value) (w : World), BelowB W w → ρ.val = E.val → All2 (D1 ρ) l xs → (callFunc f xs.toArray).run E.P w = .ok (.enter f xs.toArray) w ∧
    Calls E.P f xs.toArray w fun e w' => ∃ x, e = .returned x ∧ DV ρ v x ∧ Below w.heap.size w w'
  test : ∀ op a b r, E.test op a b = some r → ∀ k, intBin op k (a.eval E.val.num) (b.eval E.val.num) = some (.bool r)

/-- The fence of a function's frame (none), or of a round's. -/
def fen (r : Option Nat) : Fence := { Fence.wide with round := r }
theorem fen_fn (r : Option Nat) (f : FuncId) : (fen r).fn f := True.intro
theorem fen_depth (r : Option Nat) : (fen r).depth.isSome = true → 1 ≤ 0 := fun h => by cases h
theorem callsIn_fen {r : Option Nat} {P : Program} {f : FuncId} {args : Array Value} {w : World} {R : Ending → World → Prop} (h : Calls P f args w R) : CallsIn (fen r) 0 P f args w R :=
  callsIn_wide (n := 0).2 h
structure RunOk (E : Env) (W : Base) (run : Runs) : Prop where
  frm : ∀ k f args m v m', run k f args m = some (v, m') → Frm m m'
  rounds : ∀ b args m v m', run false b args m = some (v, m') → ∀ (ρ : Loc') (xs : List Value) (w : World) (l : Nat), ρ.val = E.val → All2 (D1 ρ) args xs → MemRel W ρ m w → ρ b = some l →
    ∃ f tmps assign body, (Instr.yield l xs.toArray).run E.P w = .ok (.round l f tmps assign body) w ∧
    RoundIn Fence.wide 0 E.P l f tmps assign body w fun e w' => ∃ x ρ', e = .returned x ∧ Ext ρ ρ' ∧ Keep m.hn m m' ρ ρ' ∧ DV ρ' v x ∧ MemRel W ρ' m' w'
  calls : ∀ f args m v m', run true f args m = some (v, m') → ∀ (ρ : Loc') (xs : List Value) (w : World), ρ.val = E.val → All2 (D1 ρ) args xs → MemRel W ρ m w →
    (callFunc f xs.toArray).run E.P w = .ok (.enter f xs.toArray) w ∧
    Calls E.P f xs.toArray w fun e w' => ∃ x ρ', e = .returned x ∧ Ext ρ ρ' ∧ Keep m.hn m m' ρ ρ' ∧ DV ρ' v x ∧ MemRel W ρ' m' w'

section
variable {E : Env} {run : Runs} {W : Base} {ρ : Loc'} {st : St} {a : Act} {w : World}

theorem app_frm {m m' : Mem} {e : TypeId} {s n : Nat} {d : C} {new : List C} {v : V} (hv : appX m e s d n new = some (v, m')) : Frm m m' := by
  unfold appX at hv
  cases hn0 : Nat.beq n 0 with
  | true =>
    simp only [hn0, cond_true] at hv
    split at hv
    · rename_i k' c
      cases hkc : Nat.ble k' c with
      | false => rw [hkc] at hv; cases hv
      | true => simp only [hkc, cond_true, Option.some.injEq, Prod.mk.injEq] at hv; obtain ⟨_, rfl⟩ := hv; exact .refl _
    · simp only [Option.some.injEq, Prod.mk.injEq] at hv; obtain ⟨_, rfl⟩ := hv; exact .refl _
    · simp only [Option.some.injEq, Prod.mk.injEq] at hv; obtain ⟨_, rfl⟩ := hv; exact .refl _
    · cases hv
  | false =>
    simp only [hn0, cond_false] at hv
    split at hv
    · simp only [Option.some.injEq, Prod.mk.injEq] at hv; obtain ⟨_, rfl⟩ := hv; exact .push _ _
    · rename_i b o k' c
      split at hv
      · cases hkc : Nat.ble (k' + n) c with
        | true =>
          simp only [hkc, cond_true] at hv
          split at hv
          · simp only [Option.map_eq_some_iff, Prod.mk.injEq] at hv
            obtain ⟨_, _, _, rfl⟩ := hv
            exact .upd _ _ _
          · cases hv
        | false => simp only [hkc, cond_false, Option.some.injEq, Prod.mk.injEq] at hv; obtain ⟨_, rfl⟩ := hv; exact .push _ _
      · cases hv
    · rename_i b k' s'
      split at hv
      · cases hss : Nat.beq s s' && typeAt m b e with
        | false => rw [hss] at hv; cases hv
        | true => simp only [hss, cond_true, Option.some.injEq, Prod.mk.injEq] at hv; obtain ⟨_, rfl⟩ := hv; exact (Frm.upd _ _ _).trans (.push _ _)
      · cases hv
    · cases hv
theorem clear_frm {m m' : Mem} {z : List C} {c : C} {v : V} (hv : clearX m z c = some (v, m')) : Frm m m' := by
  have row : ∀ (b o n : Nat), (bif Nat.beq n 0 then some (V.tup [], m) else match m.hp.get b with | some (.cells l e') => (putAt l o (zerosX z n)).map fun l' => (V.tup [], m.upd b (.cells l' e')) | _ => none) = some (v, m') → Frm m m' := fun b o n hv => by
    cases hn : Nat.beq n 0 with
    | true => rw [hn] at hv; simp only [cond_true, Option.some.injEq, Prod.mk.injEq] at hv; obtain ⟨_, rfl⟩ := hv; exact .refl _
    | false =>
      rw [hn] at hv
      simp only [cond_false] at hv
      split at hv
      · simp only [Option.map_eq_some_iff, Prod.mk.injEq] at hv
        obtain ⟨_, _, _, rfl⟩ := hv
        exact .upd _ _ _
      · cases hv
  unfold clearX at hv
  split at hv
  · exact row _ _ _ hv
  · exact row _ _ _ hv
  · simp only [Option.some.injEq, Prod.mk.injEq] at hv; obtain ⟨_, rfl⟩ := hv; exact .refl _
  · cases hv
theorem mem_frm {P : Program} {o : Oper} {v : V} {m' : Mem} (hv : memX P st o = some (v, m')) : Frm st.m m' := by
  obtain ⟨dst, op, type, pos, after, guard⟩ := o
  unfold memX at hv
  simp only at hv
  split at hv
  case h_1 t =>
    split at hv
    · simp only [Option.some.injEq, Prod.mk.injEq] at hv; obtain ⟨_, rfl⟩ := hv; exact .push _ _
    · cases hv
  case h_2 t x =>
    split at hv
    · simp only [Option.some.injEq, Prod.mk.injEq] at hv; obtain ⟨_, rfl⟩ := hv; exact .push _ _
    · cases hv
  case h_3 t x y =>
    split at hv
    · rename_i b o' y' s hb hy hs
      cases hc : Nat.beq y'.cells.length s && oneCells y'.cells with
      | false => simp [hc] at hv
      | true =>
        simp only [hc, cond_true] at hv
        split at hv
        · simp only [Option.map_eq_some_iff, Prod.mk.injEq] at hv
          obtain ⟨l', _, _, rfl⟩ := hv
          exact .upd _ _ _
        · cases hv
    · cases hv
  case h_4 t =>
    split at hv
    · simp only [Option.some.injEq, Prod.mk.injEq] at hv; obtain ⟨_, rfl⟩ := hv; exact .push _ _
    · cases hv
  case h_5 t mm k x =>
    split at hv
    · rename_i kt et b kx y hu hm hk hx
      split at hv
      · rename_i kd l c0 hkt hl
        cases hko : keyOk kd kx with
        | false => rw [hko] at hv; cases hv
        | true =>
          rw [hko] at hv
          simp only [cond_true] at hv
          split at hv
          · simp only [Option.some.injEq, Prod.mk.injEq] at hv
            obtain ⟨_, rfl⟩ := hv
            exact .upd _ _ _
          · cases hv
      · cases hv
    · cases hv
  case h_6 t x =>
    split at hv
    · simp only [Option.some.injEq, Prod.mk.injEq] at hv; obtain ⟨_, rfl⟩ := hv; exact .push _ _
    · split at hv
      · simp only [Option.some.injEq, Prod.mk.injEq] at hv; obtain ⟨_, rfl⟩ := hv; exact .push _ _
      · cases hv
    · cases hv
  case h_7 it =>
    split at hv
    · rename_i b hb
      split at hv
      · rename_i s pos' hl
        cases hp : Nat.blt pos' s.size with
        | true =>
          simp only [hp, cond_true, Option.some.injEq, Prod.mk.injEq] at hv
          obtain ⟨_, rfl⟩ := hv
          exact .upd _ _ _
        | false =>
          simp only [hp, cond_false, Option.some.injEq, Prod.mk.injEq] at hv
          obtain ⟨_, rfl⟩ := hv
          exact .refl _
      · cases hv
    · cases hv
  case h_8 _ args ts =>
    split at hv
    · split at hv
      · rename_i b o' n cp y e hd hy hu
        split at hv
        · rename_i cs l e' hsz hrow hl
          cases hc : oneCells (cs.take n) with
          | false => simp [hc] at hv
          | true =>
            simp only [hc, cond_true, Option.map_eq_some_iff, Prod.mk.injEq] at hv
            obtain ⟨l', _, _, rfl⟩ := hv
            exact .upd _ _ _
        · cases hv
      · cases hv
    · cases hv
  case h_9 t l c =>
    split at hv
    · split at hv
      · split at hv
        · simp only [Option.some.injEq, Prod.mk.injEq] at hv; obtain ⟨_, rfl⟩ := hv; exact .push _ _
        · cases hv
      · cases hv
    · cases hv
  case h_10 t n ps =>
    split at hv
    · split at hv
      · rename_i s z hs hz
        cases hb : Nat.ble n 10000 && Nat.ble s 1000 && Nat.blt 0 s && Nat.beq z.length s with
        | false => simp [hb] at hv
        | true =>
          simp only [hb, cond_true, Option.map_eq_some_iff, Prod.mk.injEq] at hv
          obtain ⟨cells, _, _, rfl⟩ := hv
          exact .push _ _
      · cases hv
    · cases hv
  case h_11 _ args ts =>
    split at hv
    · rename_i d x t t' hargs hts
      split at hv
      · rename_i cd cx e hd hx hu
        split at hv
        · rename_i s by' n k hs hb hn hk
          split at hv
          · rename_i new z hnew hz
            cases hb' : Nat.beq t t' && Nat.ble (k + n) 1000000 && Nat.ble by' 1000000 && Nat.blt 0 s && Nat.beq z.length s with
            | false => simp [hb'] at hv
            | true =>
              simp only [hb', cond_true] at hv
              exact app_frm hv
          · cases hv
        · cases hv
      · cases hv
    · cases hv
  case h_12 _ args ts =>
    split at hv
    · split at hv
      · split at hv
        · rename_i s z hs hz
          cases hb : Nat.beq z.length s with
          | false => rw [hb] at hv; cases hv
          | true =>
            simp only [hb, cond_true] at hv
            exact clear_frm hv
        · cases hv
      · cases hv
    · cases hv
  case h_13 t mm k x =>
    split at hv
    · rename_i kt et b kx y hu hm hk hx
      split at hv
      · rename_i kd l c0 hkt hl
        cases hko : keyOk kd kx with
        | false => rw [hko] at hv; cases hv
        | true =>
          rw [hko] at hv
          simp only [cond_true] at hv
          split at hv
          · simp only [Option.some.injEq, Prod.mk.injEq] at hv
            obtain ⟨_, rfl⟩ := hv
            exact .upd _ _ _
          · simp only [Option.some.injEq, Prod.mk.injEq] at hv
            obtain ⟨_, rfl⟩ := hv
            exact .upd _ _ _
          · cases hv
      · cases hv
    · cases hv
  case h_14 _ args ts =>
    split at hv
    · split at hv
      · split at hv
        · simp only [Option.some.injEq, Prod.mk.injEq] at hv; obtain ⟨_, rfl⟩ := hv; exact .refl _
        · cases hv
      · cases hv
    · cases hv
  case h_15 it =>
    split at hv
    · split at hv
      · split at hv
        · rename_i l c' hlm
          rename_i bm since n c hl _
          cases hc : Nat.beq c' c with
          | false => rw [hc] at hv; cases hv
          | true =>
            rw [hc] at hv
            simp only [cond_true] at hv
            split at hv
            · rename_i e he
              cases h1 : e.2.1.oneCell' with
              | false => rw [h1] at hv; cases hv
              | true => rw [h1] at hv; simp only [cond_true, Option.some.injEq, Prod.mk.injEq] at hv; obtain ⟨_, rfl⟩ := hv; exact .refl _
            · cases hv
        · cases hv
      · cases hv
    · cases hv
  case h_16 => cases hv

theorem args_sound (h : StRel W ρ st a w) : ∀ {xs : List Operand} {l : List V1}, argsX st xs = some l → All2 (D1 ρ) l (xs.map a.eval)
  | [], l, hl => by simp [argsX] at hl; subst hl; exact .nil
  | x :: r, l, hl => by
    simp only [argsX] at hl
    split at hl
    · rename_i y l' h1 h2
      simp only [Option.some.injEq] at hl; subst hl
      exact .cons (ev1_sound h h1) (args_sound h h2)
    · cases hl
theorem capPtrs_sound : ∀ {caps rs : List Nat}, All2 (fun b r => ρ b = some r) caps rs → All2 (D1 ρ) (capPtrs caps) (rs.map fun r => Value.pointer (some ⟨r, 0, none⟩))
  | _, _, .nil => .nil
  | _, _, .cons h k => .cons (.one (.ptr h)) (capPtrs_sound k)

/-- A world that a callee has only added to. -/
theorem MemRel.later {m : Mem} {w' : World} (h : MemRel W ρ m w) (hb : Below w.heap.size w w') : MemRel W ρ m w' :=
  ⟨h.below.later hb, fun b r hr => by
    obtain ⟨h1, h2, k, o, h3, h4, h5⟩ := h.dom b r hr
    exact ⟨h1, h2, k, o, h3, (hb.block r (Array.getElem?_eq_some_iff.1 h4).1).trans h4, h5⟩, h.inj, fun b r q hr hq => by
    obtain ⟨_, _, k, o, _, h4, _⟩ := h.dom b r hr
    rw [hb.block r (Array.getElem?_eq_some_iff.1 h4).1] at hq
    exact h.size b r q hr hq, h.full⟩

theorem call_frm (hR : RunOk E W run) {f : Operand} {args : Array Operand} {v : V} {m' : Mem} (hv : callX E run st f args = some (v, m')) : Frm st.m m' := by
  unfold callX at hv
  split at hv
  · simp only at hv
    split at hv
    · simp only [Option.some.injEq, Prod.mk.injEq] at hv; obtain ⟨_, rfl⟩ := hv; exact .refl _
    · split at hv
      · simp only [Option.some.injEq, Prod.mk.injEq] at hv; obtain ⟨_, rfl⟩ := hv; exact .refl _
      · exact hR.frm _ _ _ _ _ _ hv
  · exact hR.frm _ _ _ _ _ _ hv
  · rename_i fs cs _ _ _ _
    cases he : fs.isEmpty && cs.isEmpty with
    | false => rw [he] at hv; cases hv
    | true =>
      rw [he] at hv
      simp only [cond_true] at hv
      split at hv
      · split at hv
        · simp only [Option.some.injEq, Prod.mk.injEq] at hv; obtain ⟨_, rfl⟩ := hv; exact .refl _
        · split at hv
          · simp only [Option.some.injEq, Prod.mk.injEq] at hv; obtain ⟨_, rfl⟩ := hv; exact .refl _
          · exact hR.frm _ _ _ _ _ _ hv
      · cases hv
  · rename_i fs cs _ _ _
    cases he : cs.isEmpty && fs.all okConst with
    | false => rw [he] at hv; cases hv
    | true =>
      rw [he] at hv
      simp only [cond_true] at hv
      split at hv
      · simp only [Option.some.injEq, Prod.mk.injEq] at hv; obtain ⟨_, rfl⟩ := hv; exact .refl _
      · split at hv
        · simp only [Option.some.injEq, Prod.mk.injEq] at hv; obtain ⟨_, rfl⟩ := hv; exact .refl _
        · exact hR.frm _ _ _ _ _ _ hv
  · cases hv
/-- A method of a struct's type. -/
theorem path_sound {P : Program} : ∀ {path : List FieldStep} {t xt : TypeId} {y z : V1} {x : Value}, pathX P path t y = some (xt, z) → D1 ρ y x → ∀ w, ∃ z', D1 ρ z z' ∧ (follow path t (.val x)).run P w = .ok (xt, .val z') w
  | [], t, xt, y, z, x, h, hd, w => by
    simp only [pathX, Option.some.injEq, Prod.mk.injEq] at h
    obtain ⟨rfl, rfl⟩ := h
    exact ⟨x, hd, rfl⟩
  | s :: r, t, xt, y, z, x, h, hd, w => by
    unfold pathX at h
    cases hs : s.deref with
    | true => rw [hs] at h; cases h
    | false =>
      rw [hs] at h
      simp only [cond_false] at h
      split at h
      · rename_i fs l hu
        split at h
        · rename_i f hf
          split at h
          · rename_i y1 hy1
            cases hd with
            | agg hl =>
              rename_i xs
              obtain ⟨x1, d1, e1⟩ := part_sound (P := P) hy1 hl w
              obtain ⟨z', d2, e2⟩ := path_sound h d1 w
              refine ⟨z', d2, ?_⟩
              unfold follow
              rw [Sem.run_bind, run_underlying hu w]
              simp only [Result.andThen, hf, hs, Bool.false_eq_true, if_false]
              rw [Sem.run_bind, e1]
              exact e2
          · cases h
        · cases h
      · cases h
theorem meth_sound {P : Program} {t : TypeId} {y z : V1} {nm : String} {f : FuncId} {x : Value} (h : methX P t y nm = some (f, z)) (hd : D1 ρ y x) (n : Nat) (w : World) :
    (∃ fs, P.underlying t = some (.struct fs)) ∧ ∃ z', D1 ρ z z' ∧ (method (n + 1) t x nm).run P w = .ok (f, z') w := by
  unfold methX at h
  split at h
  · rename_i fs i hu hi
    split at h
    · rename_i m hm
      split at h
      · rename_i f0 hmf
        split at h
        · rename_i xt z0 hp
          split at h
          · rename_i d hd2
            cases hn : noPtr d with
            | false => rw [hn] at h; cases h
            | true =>
              rw [hn] at h
              simp only [cond_true, Option.some.injEq, Prod.mk.injEq] at h
              obtain ⟨rfl, rfl⟩ := h
              obtain ⟨z', k1, k2⟩ := path_sound hp hd w
              refine ⟨⟨fs, hu⟩, z', k1, ?_⟩
              unfold method
              have hty : (typeInfo t).run P w = .ok i w := by simp [typeInfo, hi]
              rw [Sem.run_bind, hty]
              simp only [Result.andThen, hm]
              rw [Sem.run_bind, k2]
              simp only [Result.andThen, hmf]
              have hrec : ∀ wr, (receiverAt xt (.val z') false wr).run P w = .ok z' w := fun wr => by
                unfold receiverAt
                rw [Sem.run_bind, run_underlying hd2 w]
                cases d with
                | pointer _ => cases hn
                | _ => rfl
              rw [Sem.run_bind, hrec]
              rfl
          · cases h
        · cases h
      · cases h
    · cases h
  · cases h
theorem fstPtrs_sound : ∀ {fs : List (Nat × Nat)} {vs : List Value}, All2 (FstR ρ) fs vs → All2 (D1 ρ) (fstPtrs fs) vs
  | _, _, .nil => .nil
  | _, _, .cons ⟨_, h1, h2⟩ h => .cons (h2 ▸ .one (.ptr h1)) (fstPtrs_sound h)
theorem op_defer {o : Oper} {v : V} {m' : Mem} (hv : opX E run st o = some (v, m')) (c : Call) : o.op ≠ .defer c := by
  intro h
  unfold opX pureO pureX orcX actX memX at hv
  simp only [h] at hv
  cases hv
theorem op_frm (hR : RunOk E W run) {o : Oper} {v : V} {m' : Mem} (hv : opX E run st o = some (v, m')) : Frm st.m m' := by
  unfold opX at hv
  split at hv
  · simp only [Option.some.injEq, Prod.mk.injEq] at hv; obtain ⟨_, rfl⟩ := hv; exact .refl _
  · unfold actX at hv
    split at hv
    · exact call_frm hR hv
    · exact mem_frm hv

/-- What stands behind an operation. -/
def Behind (W : Base) (ρ : Loc') (m : Mem) (v : V) (m' : Mem) (a : Act) (dst : Option Tmp) (K : Act → World → Prop) : Prop :=
  ∀ ρ' x w', Ext ρ ρ' → Keep m.hn m m' ρ ρ' → DV ρ' v x → MemRel W ρ' m' w' → K (a.put dst x) w'

theorem exC_sound {c : C} {k : IntKind} {e : Exp} (h : exC c = some (k, e)) {x : Value} (hx : DC ρ c x) : x = .int k (e.eval ρ.val.num) := by
  unfold exC at h
  split at h
  · simp only [Option.some.injEq, Prod.mk.injEq] at h
    obtain ⟨rfl, rfl⟩ := h
    exact hx.v_inv
  · simp only [Option.some.injEq, Prod.mk.injEq] at h
    obtain ⟨rfl, rfl⟩ := h
    cases hx; rfl
  · cases h
theorem sureT_some {E : Env} {W : Base} (hE : EnvOk E W) {ρ : Loc'} (hV : ρ.val = E.val) {op : BinOp} {k : IntKind} {b : Exp} (h : sureT E op b = true) {a : Int} : ∃ n, arith op k a (b.eval ρ.val.num) = some (.int k n) := by
  rw [hV]
  unfold sureT at h
  split at h
  · split at h
    · rename_i r hr
      subst h
      have := hE.test _ _ _ _ hr k
      have h0 : ¬ b.eval E.val.num = 0 := by simpa [intBin, Exp.eval] using this
      simp [arith, isShift, intBin, h0]
    · cases h
  · split at h
    · rename_i r hr
      subst h
      have := hE.test _ _ _ _ hr k
      have h0 : ¬ b.eval E.val.num = 0 := by simpa [intBin, Exp.eval] using this
      simp [arith, isShift, intBin, h0]
    · cases h
  · split at h
    · rename_i r hr
      simp only [Bool.not_eq_true'] at h
      subst h
      have := hE.test _ _ _ _ hr k
      have h0 : ¬ b.eval E.val.num < 0 := by
        have h1 : some (Value.bool (decide (b.eval E.val.num < 0))) = some (.bool false) := this
        simp only [Option.some.injEq, Value.bool.injEq] at h1
        exact of_decide_eq_false h1
      simp [arith, isShift, shiftX, h0]
    · cases h
  · split at h
    · rename_i r hr
      simp only [Bool.not_eq_true'] at h
      subst h
      have := hE.test _ _ _ _ hr k
      have h0 : ¬ b.eval E.val.num < 0 := by
        have h1 : some (Value.bool (decide (b.eval E.val.num < 0))) = some (.bool false) := this
        simp only [Option.some.injEq, Value.bool.injEq] at h1
        exact of_decide_eq_false h1
      simp [arith, isShift, shiftX, h0]
    · cases h
  · cases h
theorem surely_some {op : BinOp} {k : IntKind} {b : Exp} (h : surely op b = true) (σ : Nat → Int) (a : Int) : ∃ n, arith op k a (b.eval σ) = some (.int k n) := by
  unfold surely at h
  cases op <;> simp only at h <;> first
    | (cases h; done)
    | exact ⟨_, rfl⟩
    | (cases b <;> first
        | (cases h; done)
        | (simp at h
           simp [arith, isShift, shiftX, intBin, Exp.eval, h]
           done)
        | (simp at h
           have h' : ¬ (_ < (0 : Int)) := Int.not_lt.2 h
           simp [arith, isShift, shiftX, intBin, Exp.eval, h']))
theorem symBin_sound (hE : EnvOk E W) (hV : ρ.val = E.val) {op : BinOp} {c d r : C} (hr : symBin E op c d = some r) {x y : Value} (hx : DC ρ c x) (hy : DC ρ d y) (t : TypeId) :
    ∃ z, DC ρ r z ∧ ∀ ox oy w, (do eqGuard op t ox oy x y; binOp op t x y).run E.P w = .ok z w := by
  unfold symBin at hr
  split at hr
  · rename_i k a k' b h1 h2
    have e1 := exC_sound h1 hx
    have e2 := exC_sound h2 hy
    subst e1; subst e2
    cases hk : isShift op || decide (k = k') with
    | false => rw [hk] at hr; cases hr
    | true =>
      rw [hk] at hr
      simp only [cond_true] at hr
      cases hs : surely op b || sureT E op b with
      | true =>
        rw [hs] at hr
        simp only [cond_true, Option.some.injEq] at hr
        subst hr
        obtain ⟨n, hn⟩ : ∃ n, arith op k (a.eval ρ.val.num) (b.eval ρ.val.num) = some (.int k n) := by
          rcases Bool.or_eq_true_iff.1 hs with hs | hs
          · exact surely_some (k := k) hs ρ.val.num (a.eval ρ.val.num)
          · exact sureT_some hE hV hs
        refine ⟨_, .ex, fun ox oy w => ?_⟩
        have e3 : Exp.eval ρ.val.num (.bin op k a b) = n := by simp only [Exp.eval, hn, numOf]
        rw [e3]
        simp only [eqGuard_at_int, pure_bind]
        unfold arith at hn
        cases hsh : isShift op with
        | true => rw [hsh] at hn; exact (shiftX_sound hn t w).1
        | false =>
          rw [hsh] at hn hk
          simp only [Bool.false_or, decide_eq_true_eq] at hk
          subst hk
          exact (intBin_sound hsh hn t w).1
      | false =>
        rw [hs] at hr
        simp only [cond_false] at hr
        cases hc : isCmp op with
        | false => rw [hc] at hr; cases hr
        | true =>
          rw [hc] at hr
          simp only [cond_true, Option.map_eq_some_iff] at hr
          obtain ⟨q, hq, rfl⟩ := hr
          refine ⟨.bool q, .v rfl, fun ox oy w => ?_⟩
          simp only [eqGuard_at_int, pure_bind]
          have hsh : isShift op = false := by cases op <;> first | rfl | cases hc
          rw [hsh] at hk
          simp only [Bool.false_or, decide_eq_true_eq] at hk
          subst hk
          have := hE.test op a b q hq k
          rw [← hV] at this
          exact (intBin_sound hsh this t w).1
  · cases hr
theorem symRow_int (hE : EnvOk E W) (hV : ρ.val = E.val) {e : TypeId} {k0 : IntKind} (he : E.P.underlying e = some (.int k0)) (hs : sizeX E.P e = some 1) (d : Nat) (w : World) :
    ∀ (l l' : List C) (r : Bool) (xs ys pre pre' : List Value), symRow E l l' = some r → All2 (DC ρ) l xs → All2 (DC ρ) l' ys → pre.length = pre'.length →
      (forIn (m := Sem) (List.range' pre.length l.length) ((none, ()) : Option Bool × Unit) (fun i (_ : Option Bool × Unit) => do
        let x ← part e (pre ++ xs).toArray (i * 1)
        let y ← part e (pre' ++ ys).toArray (i * 1)
        let r ← Op.equalIn (d + 1) e x y
        if (!r) = true then pure (ForInStep.done (some false, ())) else pure (ForInStep.yield (none, ())))).run E.P w = .ok (if r then none else some false, ()) w
  | [], [], r, xs, ys, pre, pre', h, hx, hy, hl => by
    simp [symRow] at h; subst h; simp
  | [], _ :: _, r, xs, ys, pre, pre', h, hx, hy, hl => by simp [symRow] at h
  | _ :: _, [], r, xs, ys, pre, pre', h, hx, hy, hl => by simp [symRow] at h
  | c :: l, c' :: l', r, xs, ys, pre, pre', h, hx, hy, hl => by
    have hagg : isAggX E.P e = some false := by simp [isAggX, he]
    simp only [symRow] at h
    split at h
    · rename_i k a k' b h1 h2
      cases hk : decide (k = k') with
      | false => rw [hk] at h; cases h
      | true =>
        rw [hk] at h
        simp only [cond_true] at h
        simp only [decide_eq_true_eq] at hk
        subst hk
        split at h
        · rename_i q r1 hq hr
          simp only [Option.some.injEq] at h; subst h
          obtain ⟨x1, xs', rfl, hx1, hx2⟩ := hx.cons_inv
          obtain ⟨y1, ys', rfl, hy1, hy2⟩ := hy.cons_inv
          have e1 := exC_sound h1 hx1
          have e2 := exC_sound h2 hy1
          subst e1; subst e2
          have ht := hE.test .eql a b q hq k
          rw [← hV] at ht
          simp only [intBin, Option.some.injEq, Value.bool.injEq] at ht
          have ih := symRow_int hE hV he hs d w l l' r1 xs' ys' (pre ++ [.int k (a.eval ρ.val.num)]) (pre' ++ [.int k (b.eval ρ.val.num)]) hr hx2 hy2 (by simp [hl])
          have p1 : (part e (pre ++ Value.int k (a.eval ρ.val.num) :: xs').toArray (pre.length * 1)).run E.P w = .ok (.int k (a.eval ρ.val.num)) w := by
            simp [part, run_isAggX hagg]
          have p2 : (part e (pre' ++ Value.int k (b.eval ρ.val.num) :: ys').toArray (pre.length * 1)).run E.P w = .ok (.int k (b.eval ρ.val.num)) w := by
            simp [part, run_isAggX hagg, hl]
          simp only [List.length_cons, List.range'_succ, List.forIn_cons, Sem.run_bind, p1, p2, Result.andThen_ok, run_equalIn_int w d e k k0 _ _ he, Sem.run_ite, Sem.run_pure]
          rw [ht]
          cases q with
          | false => simp
          | true =>
            simp only [Bool.not_true, Bool.false_eq_true, if_false, Bool.true_and, Result.andThen_ok]
            simpa using ih
        · cases h
    · cases h
theorem equalIn_sym (hE : EnvOk E W) (hV : ρ.val = E.val) {t e : TypeId} {n : Nat} {k0 : IntKind} {l l' : List C} {r : Bool} (hu : E.P.underlying t = some (.array n e)) (hue : E.P.underlying e = some (.int k0)) (hs : sizeX E.P e = some 1)
    (h : symRow E l l' = some r) (h1 : l.length = n) {xs ys : List Value} (hx : All2 (DC ρ) l xs) (hy : All2 (DC ρ) l' ys) (d : Nat) (w : World) :
    (Op.equalIn (d + 2) t (.agg xs.toArray) (.agg ys.toArray)).run E.P w = .ok r w := by
  have key := symRow_int (ρ := ρ) hE hV hue hs d w l l' r xs ys [] [] h hx hy rfl
  simp only [List.nil_append, List.length_nil, h1] at key
  rw [Op.equalIn]
  simp only [Sem.run_bind, run_underlying hu, Result.andThen_ok, run_sizeX hs]
  rw [Std.Legacy.Range.forIn_eq_forIn_range']
  have e1 : (Std.Legacy.Range.size [:n]) = n := by simp [Std.Legacy.Range.size]
  rw [e1]
  refine (congrArg (fun r => Result.andThen r _) key).trans ?_
  cases r <;> rfl
theorem symAgg_sound (hE : EnvOk E W) (hV : ρ.val = E.val) {t : TypeId} {l l' : List C} {r : Bool} (h : symAgg E t l l' = some r) {xs ys : List Value} (hx : All2 (DC ρ) l xs) (hy : All2 (DC ρ) l' ys) (w : World) :
    (Op.equalIn 10000 t (.agg xs.toArray) (.agg ys.toArray)).run E.P w = .ok r w ∧ E.P.eqGuardType E.P.depth t = false := by
  unfold symAgg at h
  split at h
  · rename_i n e hu
    split at h
    · rename_i k0 hue hs
      cases hb : Nat.beq l.length n && Nat.beq l'.length n with
      | false => rw [hb] at h; cases h
      | true =>
        rw [hb] at h
        simp only [cond_true] at h
        simp only [Bool.and_eq_true] at hb
        refine ⟨equalIn_sym hE hV hu hue hs h (beq_t hb.1) hx hy 9998 w, ?_⟩
        obtain ⟨k, hk⟩ := depth_two E.P
        rw [hk]
        simp [Program.eqGuardType, hu, hue]
    · cases h
  · cases h
theorem pureO_sound (hE : EnvOk E W) (hV : ρ.val = E.val) (h : StRel W ρ st a w) {o : Oper} {v : V} (hv : pureO E st o = some v) : ∃ x, DV ρ v x ∧ (execOp a.eval o).run E.P w = .ok (.value x) w := by
  unfold pureO at hv
  split at hv
  · rename_i u hu
    simp only [Option.some.injEq] at hv; subst hv
    exact pure_sound h hu
  · obtain ⟨dst, op, type, pos, after, guard⟩ := o
    unfold orcX at hv
    simp only at hv
    split at hv
    · rename_i op t x y ty _
      split at hv
      · rename_i c d hp hq
        simp only [Option.map_eq_some_iff] at hv
        obtain ⟨c', hc, rfl⟩ := hv
        obtain ⟨z, h1, h2⟩ := symBin_sound hE hV hc (ev1_sound h hp).one_inv (ev1_sound h hq).one_inv t
        exact ⟨z, .s (.one h1), by simp only [execOp]; rw [Sem.run_bind, h2 x y w]; rfl⟩
      · rename_i l m hp hq
        obtain ⟨xs, hx, hxs⟩ := (ev1_sound h hp).agg_inv
        obtain ⟨ys, hy, hys⟩ := (ev1_sound h hq).agg_inv
        split at hv
        · simp only [Option.map_eq_some_iff] at hv
          obtain ⟨r, hr, rfl⟩ := hv
          obtain ⟨h1, h2⟩ := symAgg_sound hE hV hr hxs hys w
          refine ⟨.bool r, .s (.one (.v rfl)), ?_⟩
          simp only [execOp, hx, hy]
          rw [Sem.run_bind, Sem.run_bind, run_eqGuard_agg w .eql t x y _ _ h2, Result.andThen_ok, run_eql_struct, h1]
          rfl
        · simp only [Option.map_eq_some_iff] at hv
          obtain ⟨r, hr, rfl⟩ := hv
          obtain ⟨h1, h2⟩ := symAgg_sound hE hV hr hxs hys w
          refine ⟨.bool !r, .s (.one (.v rfl)), ?_⟩
          simp only [execOp, hx, hy]
          rw [Sem.run_bind, Sem.run_bind, run_eqGuard_agg w .neq t x y _ _ h2, Result.andThen_ok, run_neq_struct, h1]
          rfl
        · cases hv
      · cases hv
    · rename_i s d x _
      split at hv
      · rename_i ts k k' e hs hd hx
        simp only [Option.some.injEq] at hv; subst hv
        have he : a.eval x = .int k' (e.eval ρ.val.num) := exC_sound (c := .ex k' e) rfl (evc_sound h hx)
        have hi := run_convert_int (P := E.P) w s d k' (e.eval ρ.val.num) (by simp [hs]) (by simp [Program.intKind, hd])
        exact ⟨.int k (k.wrap (e.eval ρ.val.num)), .s (.one .ex), by
          simp only [Program.intKind, hd] at hi
          simp [execOp, he, hi]⟩
      · cases hv
    · cases hv
theorem op_wp (hE : EnvOk E W) (hR : RunOk E W run) (hV : ρ.val = E.val) (h : StRel W ρ st a w) {o : Oper} {v : V} {m' : Mem} (hv : opX E run st o = some (v, m'))
    {K : Act → World → Prop} {Q : Exit → Act → World → Prop} (hK : Behind W ρ st.m v m' a o.dst K) (rd : Option Nat) : Oper.wpIn (fen rd) 0 E.P o a w K Q := by
  refine ⟨fun f _ => fen_fn rd f, ?_⟩
  rw [Oper.semAt_eq _ _ _ (op_defer hv)]
  unfold opX at hv
  split at hv
  · rename_i u hu
    simp only [Option.some.injEq, Prod.mk.injEq] at hv
    obtain ⟨rfl, rfl⟩ := hv
    obtain ⟨x, h1, h2⟩ := pureO_sound hE hV h hu
    rw [h2, Oper.uponIn_value]
    exact hK ρ x w (Ext.refl _) (Keep.refl _ _ _) h1 h.mem
  · unfold actX at hv
    split at hv
    · rename_i f args ts hop
      unfold callX at hv
      split at hv
      · rename_i g fs caps l hf hl
        simp only at hv
        obtain ⟨vs, rs, hfv, hfs, hrs⟩ := (evc_sound h hf).fn_inv
        have hargs := (fstPtrs_sound hfs).append ((args_sound h hl).append (capPtrs_sound hrs))
        have hexec : ∀ w, (execOp a.eval o).run E.P w = (callFunc g (vs ++ (args.toList.map a.eval ++ rs.map fun r => Value.pointer (some ⟨r, 0, none⟩))).toArray).run E.P w := fun w => by
          unfold execOp
          simp only [hop]
          have e : vs.toArray ++ args.map a.eval ++ (rs.map fun r => Value.pointer (some ⟨r, 0, none⟩)).toArray = (vs ++ (args.toList.map a.eval ++ rs.map fun r => Value.pointer (some ⟨r, 0, none⟩))).toArray := by
            apply Array.ext'; simp
          rw [← e]
          simp [resolve, hfv, Deferred.ofValue, invoke]
        rw [hexec]
        split at hv
        · rename_i u hu
          simp only [Option.some.injEq, Prod.mk.injEq] at hv
          obtain ⟨rfl, rfl⟩ := hv
          obtain ⟨x, h1, h2⟩ := hE.ext _ _ _ hu ρ _ hV hargs
          rw [h2, Oper.uponIn_value]
          exact hK ρ x w (Ext.refl _) (Keep.refl _ _ _) h1 h.mem
        · split at hv
          · rename_i u hu
            simp only [Option.some.injEq, Prod.mk.injEq] at hv
            obtain ⟨rfl, rfl⟩ := hv
            obtain ⟨h1, h2⟩ := hE.sum _ _ _ hu ρ _ w h.mem.below hV hargs
            rw [h1, Oper.uponIn_enter]
            refine ⟨fen_depth rd, callsIn_fen (h2.mono fun e w' he => ?_)⟩
            obtain ⟨x, rfl, hx, hb⟩ := he
            exact hK ρ x w' (Ext.refl _) (Keep.refl _ _ _) hx (h.mem.later hb)
          · obtain ⟨h1, h2⟩ := hR.calls _ _ _ _ _ hv ρ _ w hV hargs h.mem
            rw [h1, Oper.uponIn_enter]
            refine ⟨fen_depth rd, callsIn_fen (h2.mono fun e w' he => ?_)⟩
            obtain ⟨x, ρ', rfl, hx1, hx2, hx3, hx4⟩ := he
            exact hK ρ' x w' hx1 hx2 hx3 hx4
      · rename_i b l hf hl
        obtain ⟨r, hfv, hρ⟩ := (evc_sound h hf).yl_inv
        obtain ⟨f', tmps', as', bo', hy, hround⟩ := hR.rounds _ _ _ _ _ hv ρ _ w r hV (args_sound h hl) h.mem hρ
        have hexec : (execOp a.eval o).run E.P w = .ok (.round r f' tmps' as' bo') w := by
          unfold execOp
          simp only [hop]
          have e : args.map a.eval = (args.toList.map a.eval).toArray := by
            apply Array.ext'; simp
          simp [resolve, hfv, Deferred.ofValue, invoke, e, hy]
        rw [hexec, Oper.uponIn_round]
        refine ⟨fen_depth rd, RoundIn.mono hround fun e w' he => ?_⟩
        obtain ⟨x, ρ', rfl, hx1, hx2, hx3, hx4⟩ := he
        exact hK ρ' x w' hx1 hx2 hx3 hx4
      · rename_i t0 nm fs0 cs0 y l hf hl
        cases he : (fs0.isEmpty && cs0.isEmpty) with
        | false => rw [he] at hv; cases hv
        | true =>
        rw [he] at hv
        simp only [cond_true] at hv
        simp only [Bool.and_eq_true, Array.isEmpty_iff] at he
        obtain ⟨rfl, rfl⟩ := he
        split at hv
        · rename_i g z hm
          have hfv := (evc_sound h hf).v_inv
          have hargs0 := args_sound h hl
          obtain ⟨x0, xs, hxs, hd0, hds⟩ : ∃ x0 xs, args.toList.map a.eval = x0 :: xs ∧ D1 ρ y x0 ∧ All2 (D1 ρ) l xs := by
            revert hargs0
            generalize args.toList.map a.eval = q
            intro hq
            cases hq with
            | cons k1 k2 => exact ⟨_, _, rfl, k1, k2⟩
          obtain ⟨⟨fs1, hu⟩, z', hz, hmeth⟩ := meth_sound hm hd0 (E.P.types.size + 99) w
          have hargs : All2 (D1 ρ) (z :: l) (z' :: xs) := .cons hz hds
          have hexec : (execOp a.eval o).run E.P w = (callFunc g (z' :: xs).toArray).run E.P w := by
            unfold execOp
            simp only [hop]
            have e : args.map a.eval = (x0 :: xs).toArray := by
              apply Array.ext'; simpa using hxs
            have e2 : #[z'] ++ (x0 :: xs).toArray.extract 1 (x0 :: xs).toArray.size = (z' :: xs).toArray := by
              apply Array.ext'; simp
            have hprog : (program).run E.P w = .ok E.P w := rfl
            have e3 : #[] ++ (x0 :: xs).toArray = (x0 :: xs).toArray := by simp
            have hd3 : E.P.types.size + Made.depth = E.P.types.size + 99 + 1 := rfl
            simp only [resolve, hfv, Deferred.ofValue, e, e3, Sem.run_bind, Sem.run_pure, Result.andThen]
            simp only [invoke, List.getElem?_toArray, List.getElem?_cons_zero, Sem.run_bind, run_underlying hu w, callMethod, hprog, Result.andThen]
            rw [hd3, hmeth]
            simp only [Result.andThen, e2]
          rw [hexec]
          split at hv
          · rename_i u hu
            simp only [Option.some.injEq, Prod.mk.injEq] at hv
            obtain ⟨rfl, rfl⟩ := hv
            obtain ⟨x, h1, h2⟩ := hE.ext _ _ _ hu ρ _ hV hargs
            rw [h2, Oper.uponIn_value]
            exact hK ρ x w (Ext.refl _) (Keep.refl _ _ _) h1 h.mem
          · split at hv
            · rename_i u hu
              simp only [Option.some.injEq, Prod.mk.injEq] at hv
              obtain ⟨rfl, rfl⟩ := hv
              obtain ⟨h1, h2⟩ := hE.sum _ _ _ hu ρ _ w h.mem.below hV hargs
              rw [h1, Oper.uponIn_enter]
              refine ⟨fen_depth rd, callsIn_fen (h2.mono fun e w' he => ?_)⟩
              obtain ⟨x, rfl, hx, hb⟩ := he
              exact hK ρ x w' (Ext.refl _) (Keep.refl _ _ _) hx (h.mem.later hb)
            · obtain ⟨h1, h2⟩ := hR.calls _ _ _ _ _ hv ρ _ w hV hargs h.mem
              rw [h1, Oper.uponIn_enter]
              refine ⟨fen_depth rd, callsIn_fen (h2.mono fun e w' he => ?_)⟩
              obtain ⟨x, ρ', rfl, hx1, hx2, hx3, hx4⟩ := he
              exact hK ρ' x w' hx1 hx2 hx3 hx4
        · cases hv
      · rename_i g fs0 cs0 l hf hl
        cases he : (cs0.isEmpty && fs0.all okConst) with
        | false => rw [he] at hv; cases hv
        | true =>
        rw [he] at hv
        simp only [cond_true] at hv
        simp only [Bool.and_eq_true, Array.isEmpty_iff] at he
        obtain ⟨rfl, hok⟩ := he
        have hfv := (evc_sound h hf).v_inv
        have hok' : ∀ x ∈ fs0.toList, okConst x = true := fun x hx => by
          rw [Array.all_eq_true_iff_forall_mem] at hok
          exact hok x (Array.mem_toList_iff.1 hx)
        have hargs : All2 (D1 ρ) (fs0.toList.map ofValue ++ l) (fs0.toList ++ args.toList.map a.eval) :=
          (All2.of_map_mem _ fun x hx => D1.ofValue ρ (hok' x hx)).append (args_sound h hl)
        have hexec : (execOp a.eval o).run E.P w = (callFunc g (fs0.toList ++ args.toList.map a.eval).toArray).run E.P w := by
          unfold execOp
          simp only [hop]
          have e : fs0 ++ args.map a.eval = (fs0.toList ++ args.toList.map a.eval).toArray := by
            apply Array.ext'; simp
          rw [← e]
          simp [resolve, hfv, Deferred.ofValue, invoke]
        rw [hexec]
        split at hv
        · rename_i u hu
          simp only [Option.some.injEq, Prod.mk.injEq] at hv
          obtain ⟨rfl, rfl⟩ := hv
          obtain ⟨x, h1, h2⟩ := hE.ext _ _ _ hu ρ _ hV hargs
          rw [h2, Oper.uponIn_value]
          exact hK ρ x w (Ext.refl _) (Keep.refl _ _ _) h1 h.mem
        · split at hv
          · rename_i u hu
            simp only [Option.some.injEq, Prod.mk.injEq] at hv
            obtain ⟨rfl, rfl⟩ := hv
            obtain ⟨h1, h2⟩ := hE.sum _ _ _ hu ρ _ w h.mem.below hV hargs
            rw [h1, Oper.uponIn_enter]
            refine ⟨fen_depth rd, callsIn_fen (h2.mono fun e w' he => ?_)⟩
            obtain ⟨x, rfl, hx, hb⟩ := he
            exact hK ρ x w' (Ext.refl _) (Keep.refl _ _ _) hx (h.mem.later hb)
          · obtain ⟨h1, h2⟩ := hR.calls _ _ _ _ _ hv ρ _ w hV hargs h.mem
            rw [h1, Oper.uponIn_enter]
            refine ⟨fen_depth rd, callsIn_fen (h2.mono fun e w' he => ?_)⟩
            obtain ⟨x, ρ', rfl, hx1, hx2, hx3, hx4⟩ := he
            exact hK ρ' x w' hx1 hx2 hx3 hx4
      · cases hv
    · obtain ⟨x, w', ρ', h1, h2, h3, h4, h5⟩ := mem_sound (P := E.P) h hv
      rcases h5 with h5 | ⟨h5, rfl⟩
      · rw [h5, Oper.uponIn_value]; exact hK ρ' x w' h1 h2 h3 h4
      · rw [h5, Oper.uponIn_skip]; exact hK ρ' undef w' h1 h2 h3 h4
theorem wanted_sound (h : StRel W ρ st a w) (ops : Array Oper) (o : Oper) : Region.wanted o (yielded ops a.tmps) = wantedX ops st o := by
  unfold Region.wanted wantedX
  cases hg : o.guard with
  | none => rfl
  | some g =>
    obtain ⟨j, want⟩ := g
    show (yielded ops a.tmps j == some want) = (yieldedX ops st j == some want)
    unfold yielded yieldedX
    cases hd : (ops[j]?).bind (·.dst) with
    | none => rfl
    | some t =>
      simp only [Option.bind_some]
      cases ht : st.tm.get t with
      | none => rw [h.none t ht]
      | some u =>
        obtain ⟨x, hx, hd'⟩ := h.some t u ht
        rw [hx]
        cases hd' with
        | tup _ => rfl
        | any hx' => cases x <;> first | rfl | exact absurd rfl (hx' _)
        | s k => cases k with
          | agg _ => rfl
          | one k => cases k with
            | v _ => cases x <;> rfl
            | opq =>
              cases hx' : ρ.val.opq _ with
              | bool b => exact absurd hx' (ρ.val.nb _ b)
              | _ => rfl
            | _ => rfl

theorem wpOpsIn_cons' {rd : Option Nat} {P : Program} {ops : Array Oper} {Q : Exit → Act → World → Prop} {i : Nat} {rest : List Nat} {o : Oper} (ho : ops[i]? = some o) {a : Act} {w : World}
    (h : if Region.wanted o (yielded ops a.tmps) = true then o.wpIn (fen rd) 0 P a w (wpOpsIn (fen rd) 0 P ops Q rest) Q else wpOpsIn (fen rd) 0 P ops Q rest (a.put o.dst undef) w) : wpOpsIn (fen rd) 0 P ops Q (i :: rest) a w := by
  simp only [wpOpsIn, ho]
  split
  · rename_i hw; simp only [hw, if_true] at h; exact h
  · rename_i hw; simp only [hw] at h; exact ⟨fun f _ => fen_fn rd f, h⟩

/-- What stands behind a state of the runner. -/
def Comes' (W : Base) (ρ : Loc') (m : Mem) (st : St) (K : Act → World → Prop) : Prop :=
  ∀ ρ' a' w', Ext ρ ρ' → Keep m.hn m st.m ρ ρ' → StRel W ρ' st a' w' → K a' w'

theorem ops_frm (hR : RunOk E W run) {ops : Array Oper} : ∀ {rest : List Oper} {st st' : St}, opsX E run ops rest st = some st' → Frm st.m st'.m
  | [], st, st', hv => by simp [opsX] at hv; subst hv; exact .refl _
  | o :: rest, st, st', hv => by
    simp only [opsX] at hv
    cases hw : wantedX ops st o with
    | true =>
      simp only [hw, cond_true] at hv
      split at hv
      · rename_i v m ho
        have h1 := op_frm hR ho
        have h2 := ops_frm hR hv
        have e : (St.put ⟨st.tm, m, st.ds⟩ o.dst v).m = m := by cases o.dst <;> rfl
        rw [e] at h2
        exact h1.trans h2
      · cases hv
    | false =>
      simp only [hw, cond_false] at hv
      have h2 := ops_frm hR hv
      have e : (st.put o.dst (.tup [])).m = st.m := by cases o.dst <;> rfl
      rw [e] at h2
      exact h2

theorem put_m (st : St) (d : Option Tmp) (v : V) : (st.put d v).m = st.m := by cases d <;> rfl

theorem ops_wp (rd : Option Nat) (hE : EnvOk E W) (hR : RunOk E W run) {ops : Array Oper} {Q : Exit → Act → World → Prop} : ∀ {rest : List Oper} {k : Nat} {ρ : Loc'} {st st' : St} {a : Act} {w : World}, ρ.val = E.val → rest = ops.toList.drop k → opsX E run ops rest st = some st' → StRel W ρ st a w →
    Comes' W ρ st.m st' (Q .normal) → wpOpsIn (fen rd) 0 E.P ops Q (List.range' k rest.length) a w
  | [], k, ρ, st, st', a, w, hV, _, hv, h, hQ => by
    simp [opsX] at hv; subst hv
    exact hQ ρ a w (Ext.refl _) (Keep.refl _ _ _) h
  | o :: rest, k, ρ, st, st', a, w, hV, hd, hv, h, hQ => by
    have ho : ops[k]? = some o := by
      have : (ops.toList.drop k)[0]? = some o := by rw [← hd]; rfl
      simpa using this
    have hrest : rest = ops.toList.drop (k + 1) := by
      have : (ops.toList.drop k).drop 1 = rest := by rw [← hd]; rfl
      rw [← this, List.drop_drop]
    simp only [opsX] at hv
    simp only [List.length_cons, List.range'_succ]
    refine wpOpsIn_cons' ho ?_
    rw [wanted_sound h]
    cases hw : wantedX ops st o with
    | true =>
      simp only [hw, cond_true] at hv
      split at hv
      · rename_i v m hop
        simp only [if_true]
        refine op_wp hE hR hV h hop (rd := rd) fun ρ' x w' h1 h2 h3 h4 => ?_
        refine ops_wp rd hE hR (h1.val.trans hV) hrest hv ((h.mono h1 h4).put o.dst h3) fun ρ'' a'' w'' k1 k2 k3 => ?_
        have hf := op_frm hR hop
        rw [put_m] at k2
        exact hQ ρ'' a'' w'' (h1.trans k1) (h2.trans k2 hf.hn) k3
      · cases hv
    | false =>
      simp only [hw, cond_false] at hv
      simp only [Bool.false_eq_true, if_false]
      refine ops_wp rd hE hR hV hrest hv (h.put o.dst (DV.undef ρ)) fun ρ'' a'' w'' k1 k2 k3 => ?_
      rw [put_m] at k2
      exact hQ ρ'' a'' w'' k1 k2 k3
end
end Go.Ry
namespace Go.Ry
open Go Go.RowKit

/-- Two states are alike for an operation: its operands hold the same, and memory is the same. -/
structure Like (st st' : St) (o : Oper) : Prop where
  ev : ∀ x ∈ o.op.operands, st.eval x = st'.eval x
  m : st.m = st'.m

section
variable {st st' : St}
theorem ev1_eq {x : Operand} (h : st.eval x = st'.eval x) : st.ev1 x = st'.ev1 x := by unfold St.ev1; rw [h]
theorem evc_eq {x : Operand} (h : st.eval x = st'.eval x) : st.evc x = st'.evc x := by unfold St.evc; rw [h]
theorem parts_eq : ∀ {l : List (Nat × Operand)}, (∀ p ∈ l, st.eval p.2 = st'.eval p.2) → partsX st l = partsX st' l
  | [], _ => rfl
  | (i, x) :: r, h => by
    simp only [partsX]
    rw [ev1_eq (h (i, x) (by simp)), parts_eq fun p hp => h p (by simp [hp])]
theorem args_eq : ∀ {l : List Operand}, (∀ x ∈ l, st.eval x = st'.eval x) → argsX st l = argsX st' l
  | [], _ => rfl
  | x :: r, h => by
    simp only [argsX]
    rw [ev1_eq (h x (by simp)), args_eq fun p hp => h p (by simp [hp])]
theorem caps_eq : ∀ {l : List Operand}, (∀ x ∈ l, st.eval x = st'.eval x) → pureX.capsX st l = pureX.capsX st' l
  | [], _ => rfl
  | x :: r, h => by
    simp only [pureX.capsX]
    rw [evc_eq (h x (by simp)), caps_eq fun p hp => h p (by simp [hp])]
theorem firsts_eq : ∀ {l : List Operand}, (∀ x ∈ l, st.eval x = st'.eval x) → pureX.firstX st l = pureX.firstX st' l
  | [], _ => rfl
  | x :: r, h => by
    simp only [pureX.firstX]
    rw [evc_eq (h x (by simp)), firsts_eq (l := r) fun y hy => h y (by simp [hy])]
theorem vals_eq : ∀ {l : List Operand}, (∀ x ∈ l, st.eval x = st'.eval x) → pureX.valsX st l = pureX.valsX st' l
  | [], _ => rfl
  | x :: r, h => by
    simp only [pureX.valsX]
    rw [ev1_eq (h x (by simp)), vals_eq (l := r) fun y hy => h y (by simp [hy])]
theorem optInt_eq {x : Option Operand} (h : ∀ y, x = some y → st.eval y = st'.eval y) : optInt st x = optInt st' x := by
  cases x with
  | none => rfl
  | some y => simp only [optInt]; rw [evc_eq (h y rfl)]

/-- An operation that looks into no memory yields the same whatever memory is; one that looks into one block yields the same if that block is the same. -/
theorem pure_like (P : Program) {o : Oper} (h : ∀ x ∈ o.op.operands, st.eval x = st'.eval x)
    (hm : ∀ b, looksAt st o = some (some b) → st.m.hp.get b = st'.m.hp.get b) : pureX P st o = pureX P st' o := by
  obtain ⟨dst, op, type, pos, after, guard⟩ := o
  simp only at h
  cases op <;> simp only [Op.operands] at h <;> try (simp only [pureX]; done)
  case move x => simp only [pureX]; exact h x (by simp)
  case assign x => simp only [pureX]; exact h x (by simp)
  case pick c y z => simp only [pureX]; rw [evc_eq (h c (by simp)), h y (by simp), h z (by simp)]
  case build t ps =>
    simp only [pureX]
    rw [parts_eq (l := ps.toList) fun p hp => h p.2 (by simp; exact ⟨p.1, by simpa using hp⟩)]
  case load t x =>
    have hx := evc_eq (h x (by simp))
    simp only [pureX]
    rw [← hx]
    split
    · rename_i b o hc
      have := hm b (by simp only [looksAt, hc])
      simp only [loadX, this]
    · rfl
  case nilCheck x => simp only [pureX]; rw [evc_eq (h x (by simp))]
  case binOp op t x y ty => simp only [pureX]; rw [ev1_eq (h x (by simp)), ev1_eq (h y (by simp))]
  case unOp op t x => simp only [pureX]; rw [ev1_eq (h x (by simp))]
  case convert s d x => simp only [pureX]; rw [ev1_eq (h x (by simp))]
  case makeFunc f fst cs =>
    cases f with
    | func f =>
      simp only [pureX]
      rw [caps_eq (l := cs.toList) fun x hx => h x (by simp; right; simpa using hx), firsts_eq (l := fst.toList) fun x hx => h x (by simp; left; simpa using hx), vals_eq (l := fst.toList) fun x hx => h x (by simp; left; simpa using hx)]
    | _ => rfl
  case slice t x lo hi mx =>
    cases mx with
    | some mx =>
      cases hi with
      | none => rfl
      | some hi =>
        simp only [pureX, slice3X]
        rw [evc_eq (h x (by simp)), optInt_eq (x := lo) (fun y hy => h y (by subst hy; simp)), evc_eq (h hi (by simp)), evc_eq (h mx (by simp))]
    | none =>
      simp only [pureX, sliceX]
      rw [evc_eq (h x (by simp)), optInt_eq (x := lo) (fun y hy => h y (by subst hy; simp)), optInt_eq (x := hi) (fun y hy => h y (by subst hy; simp))]
  case fieldAddr t x f => simp only [pureX]; rw [evc_eq (h x (by simp))]
  case field t x f => simp only [pureX]; rw [ev1_eq (h x (by simp))]
  case indexAddr t x i => simp only [pureX]; rw [evc_eq (h x (by simp)), evc_eq (h i (by simp))]
  case index t x i => simp only [pureX]; rw [ev1_eq (h x (by simp)), evc_eq (h i (by simp))]
  case lookup t m k ok =>
    have h1 := evc_eq (h m (by simp))
    have h2 := evc_eq (h k (by simp))
    simp only [pureX, lookX]
    rw [← h1, ← h2]
    split
    · rename_i b kx hc _
      rw [hm b (by simp only [looksAt, hc])]
    · rfl
  case extract t i => simp only [pureX]; rw [h t (by simp)]
  case call c =>
    obtain ⟨callee, args, ts⟩ := c
    cases callee with
    | builtin b =>
      cases b <;> try rfl
      case len =>
        simp only [pureX]
        cases ha : args[0]? with
        | none => rfl
        | some x =>
          have : x ∈ args := Array.mem_of_getElem? ha
          cases ts[0]? with
          | none => rfl
          | some t =>
            simp only
            rw [ev1_eq (h x (by simp [Call.operands, this]))]
      case max =>
        simp only [pureX]
        split
        · rename_i x y hxy
          have h1 : x ∈ args := by have : x ∈ args.toList := by simp [hxy]
                                   simpa using this
          have h2 : y ∈ args := by have : y ∈ args.toList := by simp [hxy]
                                   simpa using this
          rw [evc_eq (h x (by simp [Call.operands, h1])), evc_eq (h y (by simp [Call.operands, h2]))]
        · rfl
      case min =>
        simp only [pureX]
        split
        · rename_i x y hxy
          have h1 : x ∈ args := by have : x ∈ args.toList := by simp [hxy]
                                   simpa using this
          have h2 : y ∈ args := by have : y ∈ args.toList := by simp [hxy]
                                   simpa using this
          rw [evc_eq (h x (by simp [Call.operands, h1])), evc_eq (h y (by simp [Call.operands, h2]))]
        · rfl
    | _ => rfl

theorem orc_like (E : Env) {o : Oper} (h : ∀ x ∈ o.op.operands, st.eval x = st'.eval x) : orcX E st o = orcX E st' o := by
  unfold orcX
  split
  · rename_i op t x y ty hop
    rw [ev1_eq (h x (by rw [hop]; simp [Op.operands])), ev1_eq (h y (by rw [hop]; simp [Op.operands]))]
  · rename_i s d x hop
    rw [evc_eq (h x (by rw [hop]; simp [Op.operands]))]
  · rfl
theorem pureO_like (E : Env) {o : Oper} (h : ∀ x ∈ o.op.operands, st.eval x = st'.eval x)
    (hm : ∀ b, looksAt st o = some (some b) → st.m.hp.get b = st'.m.hp.get b) : pureO E st o = pureO E st' o := by
  unfold pureO
  rw [pure_like E.P h hm, orc_like E h]
theorem rowOf_eq (h : st.m = st'.m) (c : C) : rowOf st c = rowOf st' c := by
  cases c <;> simp only [rowOf, h]

theorem mem_like (P : Program) {o : Oper} (h : Like st st' o) : memX P st o = memX P st' o := by
  obtain ⟨dst, op, type, pos, after, guard⟩ := o
  obtain ⟨h, hm⟩ := h
  simp only at h
  cases op <;> simp only [Op.operands] at h <;> try (simp only [memX]; done)
  case alloc t => simp only [memX]; rw [hm]
  case box t x => simp only [memX]; rw [hm, ev1_eq (h x (by simp))]
  case store t x y => simp only [memX]; rw [hm, evc_eq (h x (by simp)), ev1_eq (h y (by simp))]
  case makeMap t r => cases r with
    | none => simp only [memX]; rw [hm]
    | some _ => rfl
  case insert t m k x => simp only [memX]; rw [hm, evc_eq (h m (by simp)), evc_eq (h k (by simp)), ev1_eq (h x (by simp))]
  case mapUpdate t m k x => simp only [memX]; rw [hm, evc_eq (h m (by simp)), evc_eq (h k (by simp)), ev1_eq (h x (by simp))]
  case entry it => simp only [memX]; rw [hm, evc_eq (h it (by simp))]
  case makeSlice t l c => simp only [memX]; rw [hm, evc_eq (h l (by simp)), evc_eq (h c (by simp))]
  case buildSlice t n ps =>
    simp only [memX]
    rw [hm, parts_eq (l := ps.toList) fun p hp => h p.2 (by simp; exact ⟨p.1, by simpa using hp⟩)]
  case range t x => simp only [memX]; rw [hm, evc_eq (h x (by simp))]
  case next it s => cases s with
    | true => simp only [memX]; rw [hm, evc_eq (h it (by simp))]
    | false => rfl
  case call c =>
    obtain ⟨callee, args, ts⟩ := c
    cases callee with
    | builtin b =>
      cases b <;> try rfl
      case copy =>
        simp only [memX]
        split
        · rename_i d s t hds ht
          have h1 : d ∈ args := by have : d ∈ args.toList := by simp [hds]
                                   simpa using this
          have h2 : s ∈ args := by have : s ∈ args.toList := by simp [hds]
                                   simpa using this
          rw [evc_eq (h d (by simp [Call.operands, h1])), evc_eq (h s (by simp [Call.operands, h2])), hm]
          simp only [rowOf_eq hm]
        · rfl
      case clear =>
        simp only [memX]
        split
        · rename_i x t hds ht
          have h1 : x ∈ args := by have : x ∈ args.toList := by simp [hds]
                                   simpa using this
          rw [evc_eq (h x (by simp [Call.operands, h1])), hm]
        · rfl
      case len =>
        simp only [memX]
        split
        · rename_i x t hds ht
          have h1 : x ∈ args := by have : x ∈ args.toList := by simp [hds]
                                   simpa using this
          rw [evc_eq (h x (by simp [Call.operands, h1])), hm]
        · rfl
      case append =>
        simp only [memX]
        split
        · rename_i d s t t' hds ht
          have h1 : d ∈ args := by have : d ∈ args.toList := by simp [hds]
                                   simpa using this
          have h2 : s ∈ args := by have : s ∈ args.toList := by simp [hds]
                                   simpa using this
          rw [evc_eq (h d (by simp [Call.operands, h1])), evc_eq (h s (by simp [Call.operands, h2])), hm]
        · rfl
    | _ => rfl

theorem made_like (P : Program) {o : Oper} (h : ∀ x ∈ o.op.operands, st.eval x = st'.eval x) (b : Nat) : madeN P st o b = madeN P st' o b := by
  unfold madeN
  split
  · rename_i t x hop; rw [ev1_eq (h x (by rw [hop]; simp [Op.operands]))]
  · rename_i t l c hop; rw [evc_eq (h l (by rw [hop]; simp [Op.operands])), evc_eq (h c (by rw [hop]; simp [Op.operands]))]
  · rename_i t n ps hop
    rw [parts_eq (l := ps.toList) fun p hp => h p.2 (by rw [hop]; simp [Op.operands]; exact ⟨p.1, by simpa using hp⟩)]
  · rfl
theorem op_like {E : Env} {run : Runs} {o : Oper} (h : Like st st' o) : opX E run st o = opX E run st' o := by
  unfold opX actX
  rw [pureO_like E h.ev (fun _ _ => by rw [h.m]), h.m]
  split
  · rfl
  · split
    · rename_i f args ts hop
      have hf : st.eval f = st'.eval f := h.ev f (by rw [hop]; simp [Op.operands, Call.operands])
      have ha : ∀ x ∈ args.toList, st.eval x = st'.eval x := fun x hx => h.ev x (by rw [hop]; simp [Op.operands, Call.operands]; right; simpa using hx)
      unfold callX
      rw [evc_eq hf, args_eq ha, h.m]
    · exact mem_like E.P h
theorem looksAt_like {o : Oper} (h : ∀ x ∈ o.op.operands, st.eval x = st'.eval x) : looksAt st o = looksAt st' o := by
  unfold looksAt
  split
  · rename_i t x hop; rw [evc_eq (h x (by rw [hop]; simp [Op.operands]))]
  · rename_i t m k ok hop; rw [evc_eq (h m (by rw [hop]; simp [Op.operands]))]
  · rfl
theorem hits_like {o : Oper} (h : ∀ x ∈ o.op.operands, st.eval x = st'.eval x) : hitsX st o = hitsX st' o := by
  unfold hitsX
  split
  · rename_i t x y hop; rw [evc_eq (h x (by rw [hop]; simp [Op.operands]))]
  · rename_i args ts hop
    split
    · rename_i d r hd
      have : d ∈ args.toList := by simp [hd]
      rw [evc_eq (h d (by rw [hop]; simp [Op.operands, Call.operands]; simpa using this))]
    · rfl
  · rename_i args ts hop
    split
    · rename_i d r hd
      have : d ∈ args.toList := by simp [hd]
      rw [evc_eq (h d (by rw [hop]; simp [Op.operands, Call.operands]; simpa using this))]
    · rfl
  · rfl
end
end Go.Ry
