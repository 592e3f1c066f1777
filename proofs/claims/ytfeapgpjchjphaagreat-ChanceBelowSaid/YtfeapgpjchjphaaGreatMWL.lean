/-
  Wide random numbers: Wide of the program, for every limit.
-/
import Derived.Test.YtfeapgpjchjphaaGreatMW4
set_option linter.all false
namespace Go.Proofs.YtfeapgpjchjphaaGreat
open Go Go.Rx Go.RowKit Go.Big Go.Shelf
attribute [local instance] noAv
/-- What Wide hands back for a limit of at least 1. -/
def WideV (s x : Int) (r : Value) : Prop :=
  ∃ k : Nat, k ≤ 511 ∧ IsLen k (x - 1) ∧ ((∃ i, i < 200 ∧ (∀ j, j < i → ¬ cNs k s j < x) ∧ cNs k s i < x ∧ r = .tuple #[W (cNs k s i), .agg #[.int .u64 (sNs k s (i + 1))], .int .i64 0])
    ∨ ((∀ j, j < 200 → ¬ cNs k s j < x) ∧ r = .tuple #[.agg #[.int .u64 0, .int .u64 0, .int .u64 0, .int .u64 0, .int .u64 0, .int .u64 0, .int .u64 0, .int .u64 0], .agg #[.int .u64 0], .int .i64 9]))
/-- What Wide hands back. -/
def wideQ (s x : Int) (r : Value) : Prop := (x < 1 ∧ r = .tuple #[.agg #[.int .u64 0, .int .u64 0, .int .u64 0, .int .u64 0, .int .u64 0, .int .u64 0, .int .u64 0, .int .u64 0], .agg #[.int .u64 0], .int .i64 2]) ∨ (1 ≤ x ∧ WideV s x r)
theorem wideV_inj {s x : Int} {r r' : Value} (h : WideV s x r) (h' : WideV s x r') : r = r' := by
  obtain ⟨k, _, hk, h⟩ := h
  obtain ⟨k', _, hk', h'⟩ := h'
  obtain rfl := isLen_inj hk hk'
  rcases h with ⟨i, hi, hno, hok, rfl⟩ | ⟨hno, rfl⟩ <;> rcases h' with ⟨i', hi', hno', hok', rfl⟩ | ⟨hno', rfl⟩
  · rcases Nat.lt_trichotomy i i' with h | rfl | h
    · exact absurd hok (hno' i h)
    · rfl
    · exact absurd hok' (hno i' h)
  · exact absurd hok (hno' i hi)
  · exact absurd hok' (hno i' hi')
  · rfl
theorem wideQ_inj {s x : Int} {r r' : Value} (h : wideQ s x r) (h' : wideQ s x r') : r = r' := by
  rcases h with ⟨h, rfl⟩ | ⟨h, k⟩ <;> rcases h' with ⟨h', rfl⟩ | ⟨h', k'⟩
  · rfl
  · omega
  · omega
  · exact wideV_inj k k'
theorem cmp_lt {x : Int} (h : x < 1) : cmpI x 0 < 1 := by
  unfold cmpI
  split
  · decide
  · rw [if_neg (by omega)]; decide
set_option maxHeartbeats 3200000 in
set_option maxRecDepth 100000 in
theorem Wide_q {w : World} {s x : Int} (hx : fit x) : Calls Tryz.prog 11 #[.agg #[.int .u64 s], W x] w (Gets (fun _ r => wideQ s x r) w) := by
  have hsign := fun U => gets_of (f_Sign x hx) U
  have hsw := fun (U : World) (X : Nat) (h : U.heap[X]? = some (.cells #[.int .u64 s] 88)) (h1 : 1 ≤ x) => swide_c (w := U) h hx h1
  obtain ⟨b0, b1, b2, b3, b4, b5, b6, b7, -, -, he⟩ := words_of hx
  rw [he] at hsign hsw
  rw [he]
  clear he
  have bel := (((((Below.refl w.heap.size w).alloc (Nat.le_refl _) (.cells #[.int .u64 s] 24)).alloc (by simp) (.cells #[.int .u64 b0, .int .u64 b1, .int .u64 b2, .int .u64 b3, .int .u64 b4, .int .u64 b5, .int .u64 b6, .int .u64 b7] 26)).alloc (by simp; omega) (.cells #[.int .u64 0, .int .u64 0, .int .u64 0, .int .u64 0, .int .u64 0, .int .u64 0, .int .u64 0, .int .u64 0] 26)).alloc (by simp; omega) (.cells #[.int .u64 0] 24))
  obtain ⟨q0, q1, q2, q3⟩ := heapF w (.cells #[.int .u64 s] 24) (.cells #[.int .u64 b0, .int .u64 b1, .int .u64 b2, .int .u64 b3, .int .u64 b4, .int .u64 b5, .int .u64 b6, .int .u64 b7] 26) (.cells #[.int .u64 0, .int .u64 0, .int .u64 0, .int .u64 0, .int .u64 0, .int .u64 0, .int .u64 0, .int .u64 0] 26) (.cells #[.int .u64 0] 24)
  have sz : ((((w.alloc (.cells #[.int .u64 s] 24)).alloc (.cells #[.int .u64 b0, .int .u64 b1, .int .u64 b2, .int .u64 b3, .int .u64 b4, .int .u64 b5, .int .u64 b6, .int .u64 b7] 26)).alloc (.cells #[.int .u64 0, .int .u64 0, .int .u64 0, .int .u64 0, .int .u64 0, .int .u64 0, .int .u64 0, .int .u64 0] 26)).alloc (.cells #[.int .u64 0] 24)).heap.size = w.heap.size + 4 := by simp
  go_enter Tryz.func11, Tryz.ntmps11
  obtain ⟨x0, x1, x2, x3, x4, x5, x6, x7⟩ := eightC q1
  go_wp2_with fail
  generalize ((((w.alloc (.cells #[.int .u64 s] 24)).alloc (.cells #[.int .u64 b0, .int .u64 b1, .int .u64 b2, .int .u64 b3, .int .u64 b4, .int .u64 b5, .int .u64 b6, .int .u64 b7] 26)).alloc (.cells #[.int .u64 0, .int .u64 0, .int .u64 0, .int .u64 0, .int .u64 0, .int .u64 0, .int .u64 0, .int .u64 0] 26)).alloc (.cells #[.int .u64 0] 24)) = w1 at *
  refine (hsign _).mono ?_
  rintro e w2 ⟨r, rfl, rfl, hb2⟩
  have q0 := keepH q0 hb2
  have q1 := keepH q1 hb2
  have q2 := keepH q2 hb2
  have q3 := keepH q3 hb2
  have bel := bel.trans (hb2.mono (by omega))
  have sz2 := hb2.size
  clear hb2 hsign x0 x1 x2 x3 x4 x5 x6 x7
  by_cases h1 : x < 1
  · have hc := cmp_lt h1
    obtain ⟨z0, z1, z2, z3, z4, z5, z6, z7⟩ := eightC q2
    have fz : ∀ j, w2.frozen? ⟨w.heap.size + 1 + 1, j, none⟩ = false := fun j => frozenOf q2
    have c3 : w2.cell? ⟨w.heap.size + 3, 0, none⟩ = some (.int .u64 0) := (cellOf q3).trans rfl
    have f3 : w2.frozen? ⟨w.heap.size + 3, 0, none⟩ = false := frozenOf q3
    have hfin := (Below.set8 bel (B := w.heap.size + 1 + 1) (by omega) (.int .u64 0) (.int .u64 0) (.int .u64 0) (.int .u64 0) (.int .u64 0) (.int .u64 0) (.int .u64 0) (.int .u64 0)).setCell (p := ⟨w.heap.size + 3, 0, none⟩) (by show w.heap.size ≤ w.heap.size + 3; omega) (.int .u64 0)
    have hne : w.heap.size + 1 + 1 ≠ w.heap.size + 3 := by omega
    have HB := Lib.hid hfin
    clear q0 q1 q2 q3 bel sz sz2 hfin hsw
    go_wp2
    exact bodyPost_ret (v := .tuple #[.agg #[.int .u64 0, .int .u64 0, .int .u64 0, .int .u64 0, .int .u64 0, .int .u64 0, .int .u64 0, .int .u64 0], .agg #[.int .u64 0], .int .i64 2]) (by simp [results, Tryz.results11, go_sem, z0, z1, z2, z3, z4, z5, z6, z7, c3]) rfl ⟨_, rfl, .inl ⟨h1, rfl⟩, HB.out⟩
  · have hc : ¬ cmpI x 0 < 1 := by unfold cmpI; rw [if_neg (by omega), if_pos (by omega)]; decide
    have h1' : 1 ≤ x := by omega
    have c0 : w2.cell? ⟨w.heap.size, 0, none⟩ = some (.int .u64 s) := (cellOf q0).trans rfl
    clear h1
    go_wp2_with fail
    refine (from_c s).mono ?_
    rintro e w3 ⟨r, rfl, ⟨X, rfl, hX, hle⟩, hb3⟩
    have q1 := keepH q1 hb3
    have q2 := keepH q2 hb3
    have q3 := keepH q3 hb3
    have bel := bel.trans (hb3.mono (by omega))
    have sz3 := hb3.size
    have hle' : w.heap.size + 4 ≤ X := by omega
    clear hb3 q0 c0
    obtain ⟨x0, x1, x2, x3, x4, x5, x6, x7⟩ := eightC q1
    go_wp2_with fail
    refine (hsw _ _ hX h1').mono ?_
    clear x0 x1 x2 x3 x4 x5 x6 x7
    have hne : w.heap.size + 1 + 1 ≠ X := by omega
    have hne3 : w.heap.size + 3 ≠ X := by omega
    have h23 : w.heap.size + 1 + 1 ≠ w.heap.size + 3 := by omega
    have hle2 : w.heap.size ≤ w.heap.size + 1 + 1 := by omega
    have hle3 : w.heap.size ≤ w.heap.size + 3 := by omega
    have HQ2 := Lib.hid q2
    have HQ3 := Lib.hid q3
    have HB := Lib.hid bel
    have HX0 := Lib.hid hX
    have Hn : w.heap.size ≤ w3.heap.size := by omega
    have HnX : w.heap.size ≤ X := by omega
    clear hsw q1 q2 q3 bel sz sz2 sz3 hle hle' hc hX
    rintro e w5 ⟨hb5, k, hk, hlen, ⟨i, hi, hno, hok, rfl, hX5⟩ | ⟨hno, rfl⟩⟩
    · obtain ⟨a0, a1, a2, a3, a4, a5, a6, a7, -, -, he⟩ := words_of (codeW_W hk (sNs k s i)).2
      have he : W (cNs k s i) = _ := he
      have HE := Lib.hid he
      rw [he]
      clear he
      have k2 := (hb5.block _ (ltH HQ2.out) (fun e => hne (Option.some.inj e))).trans HQ2.out
      have k3 := (hb5.block _ (ltH HQ3.out) (fun e => hne3 (Option.some.inj e))).trans HQ3.out
      have B5 := HB.out.grown hb5 Hn (fun k e => by cases e; exact HnX)
      have al := (Below.refl w5.heap.size w5).alloc (Nat.le_refl _) (.cells #[.int .u64 a0, .int .u64 a1, .int .u64 a2, .int .u64 a3, .int .u64 a4, .int .u64 a5, .int .u64 a6, .int .u64 a7] 26)
      have q8 := (MapKept.heap_alloc w5 (.cells #[.int .u64 a0, .int .u64 a1, .int .u64 a2, .int .u64 a3, .int .u64 a4, .int .u64 a5, .int .u64 a6, .int .u64 a7] 26)).1
      have k2 := keepH k2 al
      have k3 := keepH k3 al
      have kX := keepH hX5 al
      have B6 := B5.trans (al.mono B5.size)
      have hws := fun (U : World) (h : U.heap[X]? = some (.cells #[.int .u64 (sNs k s (i + 1))] 88)) => wstate_ok (w := U) (a0 := a0) (a1 := a1) (a2 := a2) (a3 := a3) (a4 := a4) (a5 := a5) (a6 := a6) (a7 := a7) h
      obtain ⟨x0, x1, x2, x3, x4, x5, x6, x7⟩ := eightC q8
      have HN := Lib.hid hno
      have HO := Lib.hid hok
      have HL := Lib.hid hlen
      clear hb5 hX5 B5 al hno hok hlen q8
      go_wp2_with fail
      generalize w5.alloc (.cells #[.int .u64 a0, .int .u64 a1, .int .u64 a2, .int .u64 a3, .int .u64 a4, .int .u64 a5, .int .u64 a6, .int .u64 a7] 26) = w6 at *
      refine (hws _ kX).mono ?_
      rintro e w7 ⟨r, rfl, rfl, hb7⟩
      have k2 := keepH k2 hb7
      have k3 := keepH k3 hb7
      have B7 := B6.trans (hb7.mono B6.size)
      obtain ⟨z0, z1, z2, z3, z4, z5, z6, z7⟩ := eightC k2
      have fz : ∀ j, w7.frozen? ⟨w.heap.size + 1 + 1, j, none⟩ = false := fun j => frozenOf k2
      have c3 : w7.cell? ⟨w.heap.size + 3, 0, none⟩ = some (.int .u64 0) := (cellOf k3).trans rfl
      have f3 : w7.frozen? ⟨w.heap.size + 3, 0, none⟩ = false := frozenOf k3
      have hfin := (Below.set8 B7 (B := w.heap.size + 1 + 1) hle2 (.int .u64 a0) (.int .u64 a1) (.int .u64 a2) (.int .u64 a3) (.int .u64 a4) (.int .u64 a5) (.int .u64 a6) (.int .u64 a7)).setCell (p := ⟨w.heap.size + 3, 0, none⟩) (by show w.heap.size ≤ w.heap.size + 3; exact hle3) (.int .u64 (sNs k s (i + 1)))
      have HF := Lib.hid hfin
      clear hb7 k2 k3 kX B6 B7 hfin hws x0 x1 x2 x3 x4 x5 x6 x7
      obtain ⟨s', hs'⟩ : ∃ s', s' = sNs k s (i + 1) := ⟨_, rfl⟩
      have HS := Lib.hid hs'
      rw [← hs'] at HF ⊢
      clear hs'
      go_wp2
      exact bodyPost_ret (v := .tuple #[.agg #[.int .u64 a0, .int .u64 a1, .int .u64 a2, .int .u64 a3, .int .u64 a4, .int .u64 a5, .int .u64 a6, .int .u64 a7], .agg #[.int .u64 s'], .int .i64 0]) (by simp [results, Tryz.results11, go_sem, z0, z1, z2, z3, z4, z5, z6, z7, c3]) rfl ⟨_, rfl, .inr ⟨h1', k, hk, HL.out, .inl ⟨i, hi, fun j hj => Int.not_lt.2 (HN.out j hj), HO.out, by rw [HE.out, HS.out]⟩⟩, HF.out⟩
    · have k2 := (hb5.block _ (ltH HQ2.out) (fun e => hne (Option.some.inj e))).trans HQ2.out
      have k3 := (hb5.block _ (ltH HQ3.out) (fun e => hne3 (Option.some.inj e))).trans HQ3.out
      have B5 := HB.out.grown hb5 Hn (fun k e => by cases e; exact HnX)
      have al := (Below.refl w5.heap.size w5).alloc (Nat.le_refl _) (.cells #[.int .u64 0, .int .u64 0, .int .u64 0, .int .u64 0, .int .u64 0, .int .u64 0, .int .u64 0, .int .u64 0] 26)
      have q8 := (MapKept.heap_alloc w5 (.cells #[.int .u64 0, .int .u64 0, .int .u64 0, .int .u64 0, .int .u64 0, .int .u64 0, .int .u64 0, .int .u64 0] 26)).1
      have k2 := keepH k2 al
      have k3 := keepH k3 al
      have B6 := B5.trans (al.mono B5.size)
      have hws := fun (U : World) (p : Value) => wstate_no (w := U) (p := p) (e := 9) (a0 := 0) (a1 := 0) (a2 := 0) (a3 := 0) (a4 := 0) (a5 := 0) (a6 := 0) (a7 := 0) (by decide)
      obtain ⟨x0, x1, x2, x3, x4, x5, x6, x7⟩ := eightC q8
      have HN := Lib.hid hno
      have HL := Lib.hid hlen
      clear hb5 B5 al hno hlen q8
      go_wp2_with fail
      generalize w5.alloc (.cells #[.int .u64 0, .int .u64 0, .int .u64 0, .int .u64 0, .int .u64 0, .int .u64 0, .int .u64 0, .int .u64 0] 26) = w6 at *
      refine (hws _ _).mono ?_
      rintro e w7 ⟨r, rfl, rfl, hb7⟩
      have k2 := keepH k2 hb7
      have k3 := keepH k3 hb7
      have B7 := B6.trans (hb7.mono B6.size)
      obtain ⟨z0, z1, z2, z3, z4, z5, z6, z7⟩ := eightC k2
      have fz : ∀ j, w7.frozen? ⟨w.heap.size + 1 + 1, j, none⟩ = false := fun j => frozenOf k2
      have c3 : w7.cell? ⟨w.heap.size + 3, 0, none⟩ = some (.int .u64 0) := (cellOf k3).trans rfl
      have f3 : w7.frozen? ⟨w.heap.size + 3, 0, none⟩ = false := frozenOf k3
      have hfin := (Below.set8 B7 (B := w.heap.size + 1 + 1) hle2 (.int .u64 0) (.int .u64 0) (.int .u64 0) (.int .u64 0) (.int .u64 0) (.int .u64 0) (.int .u64 0) (.int .u64 0)).setCell (p := ⟨w.heap.size + 3, 0, none⟩) (by show w.heap.size ≤ w.heap.size + 3; exact hle3) (.int .u64 0)
      have HF := Lib.hid hfin
      clear hb7 k2 k3 B6 B7 hfin hws x0 x1 x2 x3 x4 x5 x6 x7
      go_wp2
      exact bodyPost_ret (v := .tuple #[.agg #[.int .u64 0, .int .u64 0, .int .u64 0, .int .u64 0, .int .u64 0, .int .u64 0, .int .u64 0, .int .u64 0], .agg #[.int .u64 0], .int .i64 9]) (by simp [results, Tryz.results11, go_sem, z0, z1, z2, z3, z4, z5, z6, z7, c3]) rfl ⟨_, rfl, .inr ⟨h1', k, hk, HL.out, .inr ⟨fun j hj => Int.not_lt.2 (HN.out j hj), rfl⟩⟩, HF.out⟩
end Go.Proofs.YtfeapgpjchjphaaGreat
