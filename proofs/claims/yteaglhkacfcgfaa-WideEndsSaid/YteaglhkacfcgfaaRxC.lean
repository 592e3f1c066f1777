/-
  THE RUNNER IS SOUND, part 2: the operations that only reckon or read.
-/
import Derived.Test.YteaglhkacfcgfaaRxB
import Derived.Laws.StructEq
namespace Go.Rx
open Go Go.RowKit

section
variable {P : Program}
theorem run_sizeX {t : TypeId} {s : Nat} (h : sizeX P t = some s) (w : World) : (sizeOf t).run P w = .ok s w := by
  unfold sizeX at h
  cases hq : P.info? t with
  | none => simp [hq] at h
  | some i => simp [hq] at h; simp [sizeOf, typeInfo, hq, h]
theorem info_sizeX {t : TypeId} {s : Nat} (h : sizeX P t = some s) : (P.info? t).map (·.size) = some s := h
theorem run_isAggX {t : TypeId} {b : Bool} (h : isAggX P t = some b) (w : World) : (isAgg t).run P w = .ok b w := by
  unfold isAggX at h
  cases hu : P.underlying t with
  | none => simp [hu] at h
  | some d =>
    unfold isAgg
    rw [Sem.run_bind, run_underlying hu w]
    cases d <;> simp [hu] at h <;> simp [← h]
theorem run_zeroX {t : TypeId} {l : List C} (h : zeroX P t = some l) (w : World) (ρ : Loc') : ∃ z, (zeroValue t).run P w = .ok z w ∧ All2 (DC ρ) l z.cells.toList := by
  unfold zeroX at h
  cases hq : P.info? t with
  | none => simp [hq] at h
  | some i =>
    cases hz : i.zero with
    | none => simp [hq, hz] at h
    | some z =>
      simp only [hq, Option.bind_some, hz] at h
      cases ha : z.cells.toList.all (·.oneCell') with
      | false => rw [ha] at h; cases h
      | true =>
        rw [ha] at h; simp only [cond_true, Option.some.injEq] at h; subst h
        exact ⟨z, by simp [zeroValue, typeInfo, hq, hz], All2.of_map_mem _ fun y hy => .v (List.all_eq_true.1 ha y hy)⟩

theorem ble_t {a b : Nat} (h : Nat.ble a b = true) : a ≤ b := Nat.le_of_ble_eq_true h
theorem takeAt_some {l l' : List C} {o n : Nat} (h : takeAt l o n = some l') : o + n ≤ l.length ∧ l' = (l.drop o).take n := by
  unfold takeAt at h
  cases hb : Nat.ble (o + n) l.length with
  | false => simp [hb] at h
  | true => simp [hb] at h; exact ⟨ble_t hb, h.symm⟩
theorem putAt_some {l l' cs : List C} {o : Nat} (h : putAt l o cs = some l') : o + cs.length ≤ l.length ∧ l' = l.take o ++ (cs ++ l.drop (o + cs.length)) := by
  unfold putAt at h
  cases hb : Nat.ble (o + cs.length) l.length with
  | false => simp [hb] at h
  | true => simp [hb] at h; exact ⟨ble_t hb, h.symm⟩

theorem part_sound {ρ : Loc'} {t : TypeId} {l : List C} {xs : List Value} {o : Nat} {y : V1} (h : partX P t l o = some y) (hl : All2 (DC ρ) l xs) (w : World) :
    ∃ x, D1 ρ y x ∧ (part t xs.toArray o).run P w = .ok x w := by
  unfold partX at h
  cases ha : isAggX P t with
  | none => simp [ha] at h
  | some b =>
    cases b with
    | true =>
      cases hs : sizeX P t with
      | none => simp [ha, hs] at h
      | some n =>
        simp only [ha, hs, Option.map_eq_some_iff] at h
        obtain ⟨l', h1, rfl⟩ := h
        obtain ⟨_, rfl⟩ := takeAt_some h1
        refine ⟨_, .agg ((hl.drop o).take n), ?_⟩
        simp [part, run_isAggX ha, run_sizeX hs]
    | false =>
      simp only [ha, Option.map_eq_some_iff] at h
      obtain ⟨c, h1, rfl⟩ := h
      obtain ⟨x, h2, h3⟩ := hl.get h1
      exact ⟨x, .one h3, by simp [part, run_isAggX ha, h2]⟩

theorem cell_of {w : World} {r j : Nat} {xs : List Value} {e : TypeId} {fr : Nat × Nat} (h : w.heap[r]? = some (.cells xs.toArray e fr)) : w.cell? ⟨r, j, none⟩ = xs[j]? := by
  simp [World.cell?, h]
theorem add_none (r o n : Nat) : (⟨r, o, none⟩ : Addr).add n = ⟨r, o + n, none⟩ := by
  unfold Addr.add; split <;> simp_all

theorem load_sound {W : World} {ρ : Loc'} {m : Mem} {w : World} (hm : MemRel W ρ m w) {st : St} (hst : st.m = m) {t : TypeId} {b o r : Nat} {y : V1} (h : loadX P st t b o = some y) (hr : ρ b = some r) :
    ∃ x, D1 ρ y x ∧ (loadVar t ⟨r, o, none⟩).run P w = .ok x w := by
  subst hst
  obtain ⟨_, _, k, ob, hk, hob, hdb⟩ := hm.dom b r hr
  unfold loadX at h
  rw [hk] at h
  cases hdb with
  | cells hl =>
    rename_i l xs e
    simp only at h
    unfold partX at h
    cases ha : isAggX P t with
    | none => simp [ha] at h
    | some ag =>
      cases ag with
      | true =>
        cases hs : sizeX P t with
        | none => simp [ha, hs] at h
        | some n =>
          simp only [ha, hs, Option.map_eq_some_iff] at h
          obtain ⟨l', h1, rfl⟩ := h
          obtain ⟨hlen, rfl⟩ := takeAt_some h1
          refine ⟨_, .agg ((hl.drop o).take n), ?_⟩
          have hlen' : ((xs.drop o).take n).length = n := by have := hl.length; simp; omega
          have hload := run_loadCells_list (P := P) w ⟨r, o, none⟩ ((xs.drop o).take n) (fun j v hv => by
            rw [add_none, cell_of hob]
            have hj : j < n := by
              have := (List.getElem?_eq_some_iff.1 hv).1
              omega
            rw [List.getElem?_take_of_lt hj, List.getElem?_drop] at hv
            exact hv)
          rw [hlen'] at hload
          simp [loadVar, run_isAggX ha, run_sizeX hs, hload]
      | false =>
        simp only [ha, Option.map_eq_some_iff] at h
        obtain ⟨c, h1, rfl⟩ := h
        obtain ⟨x, h2, h3⟩ := hl.get h1
        exact ⟨x, .one h3, by simp [loadVar, run_isAggX ha, cell_of hob, h2]⟩
  | map _ => simp at h
  | iter => simp at h

/-! ### Building -/
theorem foldl_put (off : Nat) : ∀ (vs : List Value) (k : Nat) (cs : Array Value), off + k + vs.length ≤ cs.size →
    (vs.zipIdx k).foldl (fun cs (p : Value × Nat) => cs.setIfInBounds (off + p.2) p.1) cs = (cs.toList.take (off + k) ++ (vs ++ cs.toList.drop (off + k + vs.length))).toArray
  | [], k, cs, _ => by simp
  | v :: vs, k, cs, h => by
    simp only [List.zipIdx_cons, List.foldl_cons]
    rw [foldl_put off vs (k + 1) _ (by simp at h ⊢; omega)]
    congr 1
    apply List.ext_getElem?
    intro j
    have hk : off + k < cs.size := by simp at h; omega
    simp only [Array.toList_setIfInBounds, List.getElem?_append, List.length_take, List.length_set, Array.length_toList, List.getElem?_take, List.getElem?_set, List.getElem?_drop, List.length_cons]
    have e1 : min (off + (k + 1)) cs.size = off + k + 1 := by omega
    have e2 : min (off + k) cs.size = off + k := by omega
    rw [e1, e2]
    by_cases h1 : j < off + k
    · simp [h1, show j < off + k + 1 by omega, show j < off + (k + 1) by omega, show off + k ≠ j by omega]
    · by_cases h2 : j = off + k
      · subst h2
        simp [show off + k < off + (k + 1) by omega, hk]
      · have e3 : j - (off + k) = (j - (off + k + 1)) + 1 := by omega
        simp only [show ¬ (j < off + k + 1) by omega, show ¬ (j < off + k) by omega, if_false]
        rw [e3]
        simp only [List.getElem?_cons_succ, Nat.add_lt_add_iff_right]
        by_cases h3 : j - (off + k + 1) < vs.length
        · simp [h3]
        · simp only [h3, if_false]
          rw [if_neg (by omega)]
          congr 1
          omega

theorem fill_sound {ρ : Loc'} {placeX : Nat → Option (Nat × Nat)} {place : Nat → Option (Nat × Nat)} (hp : ∀ i q, placeX i = some q → place i = some q) :
    ∀ {ps : List (Nat × V1)} {qs : List (Nat × Value)} {cells cells' : List C} {xs : List Value}, All2 (fun p q => p.1 = q.1 ∧ D1 ρ p.2 q.2) ps qs → All2 (DC ρ) cells xs →
      fillX placeX cells ps = some cells' → ∃ ys, Instr.fill place xs.toArray qs = some ys.toArray ∧ All2 (DC ρ) cells' ys
  | _, _, cells, cells', xs, .nil, hc, h => by simp [fillX] at h; subst h; exact ⟨xs, rfl, hc⟩
  | (i, y) :: ps, (i', v) :: qs, cells, cells', xs, .cons hpq hrest, hc, h => by
    obtain ⟨hi, hy⟩ := hpq
    simp only at hi hy
    subst hi
    simp only [fillX] at h
    cases hpl : placeX i with
    | none => simp [hpl] at h
    | some q =>
      obtain ⟨off, size⟩ := q
      simp only [hpl] at h
      cases hb : Nat.beq y.cells.length size with
      | false => simp [hb] at h
      | true =>
        simp only [hb, cond_true] at h
        cases hput : putAt cells off y.cells with
        | none => simp [hput] at h
        | some c1 =>
          simp only [hput] at h
          obtain ⟨hle, rfl⟩ := putAt_some hput
          have hcy := hy.cells
          have hvl : v.cells.size = size := by have := hcy.length; have := beq_t hb; simp at *; omega
          have hxl := hc.length
          have hyl := hcy.length
          simp only [Array.length_toList] at hyl
          have hfold := foldl_put off v.cells.toList 0 xs.toArray (by simp; omega)
          have hnew : All2 (DC ρ) (cells.take off ++ (y.cells ++ cells.drop (off + y.cells.length))) (xs.take off ++ (v.cells.toList ++ xs.drop (off + v.cells.toList.length))) := by
            rw [hcy.length]
            exact (hc.take off).append (hcy.append (hc.drop _))
          obtain ⟨ys, h1, h2⟩ := fill_sound hp hrest hnew h
          refine ⟨ys, ?_, h2⟩
          simp only [Instr.fill, hp _ _ hpl]
          rw [if_neg (by simp [hvl]; omega)]
          rw [← h1]
          congr 1
          have e : v.cells.zipIdx.foldl (fun cs (p : Value × Nat) => cs.setIfInBounds (off + p.2) p.1) xs.toArray = (v.cells.toList.zipIdx 0).foldl (fun cs (p : Value × Nat) => cs.setIfInBounds (off + p.2) p.1) xs.toArray := by
            rw [← Array.foldl_toList]; congr 1; simp
          simp only [Nat.add_zero] at hfold
          exact e.trans (by simpa using hfold)

theorem parts_sound {W : World} {ρ : Loc'} {st : St} {a : Act} {w : World} (h : StRel W ρ st a w) : ∀ {ps : List (Nat × Operand)} {l : List (Nat × V1)}, partsX st ps = some l →
    All2 (fun p (q : Nat × Value) => p.1 = q.1 ∧ D1 ρ p.2 q.2) l (ps.map fun (i, x) => (i, a.eval x))
  | [], l, hl => by simp [partsX] at hl; subst hl; exact .nil
  | (i, x) :: r, l, hl => by
    simp only [partsX] at hl
    cases h1 : st.ev1 x with
    | none => simp [h1] at hl
    | some y =>
      cases h2 : partsX st r with
      | none => simp [h1, h2] at hl
      | some l' => simp [h1, h2] at hl; subst hl; exact .cons ⟨rfl, ev1_sound h h1⟩ (parts_sound h h2)
end
end Go.Rx
