/-
  The law ChanceFair.
-/
import Derived.Test.YtmfjieldgcdhoaaGreatMCQ
import Derived.Deep.CutRange
set_option linter.all false
namespace Go.Proofs.YtmfjieldgcdhoaaGreat
open Go Go.RowKit Go.Big Go.Shelf
attribute [local instance] noAv
set_option maxHeartbeats 1600000 in
set_option maxRecDepth 100000 in
theorem before_c {w : World} (x : Int) : Calls Tryz.prog 10 #[.int .u64 x] w (Gets (fun _ r => r = .agg #[.int .u64 (bef x)]) w) := by
  have k := fun o => (MapKept.heap_alloc w o).1
  have c := fun v => (cellOf (j := 0) (k (.cells #[v] 24))).trans (show (#[v] : Array Value)[0]? = some v from rfl)
  have al := fun o => (Below.refl w.heap.size w).alloc (Nat.le_refl _) o
  clear k
  go_enter Tryz.func10, Tryz.ntmps10
  go_wp2
  exact bodyPost_ret (v := .agg #[.int .u64 (bef x)]) (by simp [results, Tryz.results10, go_sem, c, bef, b4, b2, unX]) rfl ⟨_, rfl, rfl, al _⟩
set_option maxHeartbeats 3200000 in
set_option maxRecDepth 100000 in
theorem fair_law {w : World} (hW : ∀ U, Calls Tryz.prog 5 #[] U (Gets (fun _ r => r = .bool true) U)) (x n : Int) (hx0 : 0 ≤ x) (hx1 : x < 18446744073709551616) : Calls Tryz.prog 4 #[.int .u64 x, .int .i64 n] w (Gets (fun _ r => r = .bool true) w) := by
  have hm := mix_bef x hx0 hx1
  obtain ⟨hN1, hN2⟩ := limit_range n
  have hB : ∀ U, Calls Tryz.prog 10 #[.int .u64 x] U (Gets (fun _ r => r = .agg #[.int .u64 (bef x)]) U) := fun U => before_c x
  generalize bef x = s at *
  have hN : ∀ U, Calls Tryz.prog 6 #[.agg #[.int .u64 s]] U (Gets (fun _ r => r = .tuple #[.int .u64 x, .agg #[.int .u64 (st s)]]) U) := fun U => by
    have := next_c (w := U) s
    unfold nextV at this
    rw [hm] at this
    exact this
  generalize hw0 : w.heap.size = N0 at *
  go_enter Tryz.func4, Tryz.ntmps4
  go_wp2_with fail
  refine (hW _).mono ?_
  rintro e w1 ⟨r, rfl, rfl, hb⟩
  rw [hw0] at hb
  clear hW
  go_wp2_with fail
  generalize wrap64 (1 + wrap64 ((IntKind.u64.wrap n).tmod 4611686018427387904)) = M at *
  refine (hB _).mono ?_
  rintro e w2 ⟨r, rfl, rfl, hb2⟩
  have hb2 := hb.trans (hb2.mono (by have := hb.size; omega))
  clear hb hB
  have k5 := fun o => (MapKept.heap_alloc w2 o).1
  have al5 := fun o => hb2.alloc (by have := hb2.size; omega) o
  go_wp2_with fail
  refine (hN _).mono ?_
  rintro e w3 ⟨r, rfl, rfl, hb3⟩
  have hP := keepH (k5 _) hb3
  have hb3 := (al5 _).trans (hb3.mono (by have := hb2.size; simp; omega))
  clear k5 al5 hb2 hN
  generalize w2.heap.size = P at *
  have lP := ltH hP
  have c5 : w3.cell? ⟨P, 0, none⟩ = some (.int .u64 s) := (cellOf hP).trans rfl
  have hQ := fun o => (MapKept.heap_alloc w3 o).1
  have alQ := fun o => (Below.refl w3.heap.size w3).alloc (Nat.le_refl _) o
  have lN : N0 ≤ w3.heap.size := by rw [← hw0]; exact hb3.size
  go_wp2_with fail
  have hb4 := hb3.trans ((alQ (.cells #[.int .u64 (st s)] 24)).mono lN)
  have hP4 := keepH hP (alQ (.cells #[.int .u64 (st s)] 24))
  have hQ4 := hQ (.cells #[.int .u64 (st s)] 24)
  clear hQ alQ lN hb3 hP c5
  generalize w3.alloc (.cells #[.int .u64 (st s)] 24) = w4 at *
  generalize w3.heap.size = Q at *
  have hok : okV M x = decide (x ≤ IntKind.u64.wrap (IntKind.u64.wrap (-(IntKind.u64.wrap (-M)).tmod M) - 1)) := by
    unfold okV restV
    generalize (IntKind.u64.wrap (-M)).tmod M = R
    have e : IntKind.u64.wrap (IntKind.u64.wrap (-R) - 1) = IntKind.u64.wrap (18446744073709551615 - R) := by
      rw [wrap_u, wrap_u, wrap_u]; omega
    rw [e]
  generalize IntKind.u64.wrap (IntKind.u64.wrap (-(IntKind.u64.wrap (-M)).tmod M) - 1) = L at *
  generalize IntKind.u64.wrap (-(IntKind.u64.wrap (-M)).tmod M) = L1 at *
  generalize (IntKind.u64.wrap (-M)).tmod M = L2 at *
  generalize IntKind.u64.wrap (-M) = L3 at *
  refine (Below_c (s := s) (n := M) hN1 hN2).mono ?_
  rintro e w5 ⟨r, rfl, hv, hb5⟩
  have hP5 := keepH hP4 hb5
  have hQ5 := keepH hQ4 hb5
  have hb5 := hb4.trans (hb5.mono (by rw [← hw0]; exact hb4.size))
  have lQ := ltH hQ5
  have lN : N0 ≤ w5.heap.size := by rw [← hw0]; exact hb5.size
  clear hP4 hQ4 hb4
  have c5 : w5.cell? ⟨P, 0, none⟩ = some (.int .u64 s) := (cellOf hP5).trans rfl
  have c7 : w5.cell? ⟨Q, 0, none⟩ = some (.int .u64 (st s)) := (cellOf hQ5).trans rfl
  have al := fun o => hb5.alloc lN o
  have Hw0 := Lib.hid hw0
  have Hm := Lib.hid hm
  clear hw0 hm
  by_cases hx : x ≤ L
  · have ho : okV M (mix s) = true := by rw [Hm.out, hok]; simpa using hx
    have hr := below_now hv ho
    subst hr
    rw [Hm.out, Int.tmod_eq_emod_of_nonneg hx0]
    clear hv ho hok hb5
    have hR := fun o => (MapKept.heap_alloc w5 o).1
    have hQ6 := fun o => keepH hQ5 ((Below.refl w5.heap.size w5).alloc (Nat.le_refl _) o)
    have hRr := hR (.cells #[.int .u64 (st s)] 24)
    have hQq := hQ6 (.cells #[.int .u64 (st s)] 24)
    clear hR hQ6
    have hal := al (.cells #[.int .u64 (st s)] 24)
    clear al
    go_upto_region 11 with (fail)
    generalize w5.alloc (.cells #[.int .u64 (st s)] 24) = w6 at *
    generalize w5.heap.size = R at *
    refine fair_r11 hx0 hN1 hN2 hQq hRr _ _ _ _ _ _ _ _ _ _ _ _ _ _ _ _ _ _ _ _ _ _ _ _ _ _ _ _ _ _ _ _ _ _ _ _ _ _ _ _ _ _ _ _ _ _ _ _ _ _ _ _ _ _ _ _ _ _ _ _ _ _ _ _ _ _ _ _ _ _ _ _ _ _ _ _ _ _ _ _ _ _ _ _ _ _ ?_
    intro u50 u51 u52 u53 u54 u55 u56 u57 u58 u59 u60 u61 u62 u63 u64 u65
    rename_i hKr
    refine hKr _ _ ?_
    clear hKr
    go_wp2
    go_ret
    exact ⟨_, rfl, rfl, by rw [Hw0.out]; exact hal⟩
  · have ho : okV M (mix s) = false := by rw [Hm.out, hok]; simpa using hx
    have hB2 : ∀ U, Calls Tryz.prog 11 #[.agg #[.int .u64 (st s)], .int .i64 M] U (Gets (fun _ r => BelowV (st s) M r) U) := fun U => Below_c (s := st s) (n := M) hN1 hN2
    rcases below_next hv ho with rfl | ⟨y, z, rfl, huniq⟩
    · clear hv ho hok hb5
      have hR := fun o => (MapKept.heap_alloc w5 o).1
      have hQ6 := fun o => keepH hQ5 ((Below.refl w5.heap.size w5).alloc (Nat.le_refl _) o)
      have hRr := hR (.cells #[.int .u64 0] 24)
      have hQq := hQ6 (.cells #[.int .u64 0] 24)
      clear hR hQ6
      have hal := al (.cells #[.int .u64 0] 24)
      clear al
      have lw5 := lQ
      go_wp2_with fail
      generalize w5.alloc (.cells #[.int .u64 0] 24) = w6 at *
      generalize w5.heap.size = R at *
      refine (hB2 _).mono ?_
      rintro e w7 ⟨r2, rfl, hv2, hb7⟩
      have hRr := keepH hRr hb7
      have hQq := keepH hQq hb7
      have lN6 : N0 ≤ w6.heap.size := by rw [← Hw0.out]; exact hal.size
      have hb7 := hal.trans (hb7.mono lN6)
      have lN7 : N0 ≤ w7.heap.size := by rw [← Hw0.out]; exact hb7.size
      have hS := fun o => (MapKept.heap_alloc w7 o).1
      have hR8 := fun o => keepH hRr ((Below.refl w7.heap.size w7).alloc (Nat.le_refl _) o)
      have al := fun o => hb7.alloc lN7 o
      clear hQq hRr hal
      rcases hv2 with ⟨i, hi, k1, k2, rfl⟩ | ⟨k1, rfl⟩
      · clear k1 k2
        generalize wrap64 ((mix (stN i (st s))).tmod M) = m at *
        generalize stN (i + 1) (st s) = z2 at *
        have hSs := hS (.cells #[.int .u64 z2] 24)
        have hRr := hR8 (.cells #[.int .u64 z2] 24)
        have hal := al (.cells #[.int .u64 z2] 24)
        clear hS hR8 al
        go_upto_region 13 with (fail)
        generalize w7.alloc (.cells #[.int .u64 z2] 24) = w8 at *
        generalize w7.heap.size = S at *
        refine fair_r13b _ _ _ _ _ _ _ _ _ _ _ _ _ _ _ _ _ _ _ _ _ _ _ _ _ _ _ _ _ _ _ _ _ _ _ _ _ _ _ _ _ _ _ _ _ _ _ _ _ _ _ _ _ _ _ _ _ _ _ _ _ _ _ _ _ _ _ _ _ _ _ _ _ _ _ _ _ _ _ _ _ _ _ _ _ _ _ _ _ _ ?_
        intro u73 u74 u75 u76 u77 u78 u79 u80 u81 u82 u83 u84 u85 u86 u87 u88 u89
        rename_i hKr
        refine hKr _ _ ?_
        clear hKr
        go_wp2
        go_ret
        exact ⟨_, rfl, rfl, by rw [Hw0.out]; exact hal⟩
      · clear k1
        have hSs := hS (.cells #[.int .u64 0] 24)
        have hRr := hR8 (.cells #[.int .u64 0] 24)
        have hal := al (.cells #[.int .u64 0] 24)
        clear hS hR8 al
        go_upto_region 13 with (fail)
        generalize w7.alloc (.cells #[.int .u64 0] 24) = w8 at *
        generalize w7.heap.size = S at *
        refine fair_r13a hRr hSs _ _ _ _ _ _ _ _ _ _ _ _ _ _ _ _ _ _ _ _ _ _ _ _ _ _ _ _ _ _ _ _ _ _ _ _ _ _ _ _ _ _ _ _ _ _ _ _ _ _ _ _ _ _ _ _ _ _ _ _ _ _ _ _ _ _ _ _ _ _ _ _ _ _ _ _ _ _ _ _ _ _ _ _ _ _ ?_
        intro u73 u74 u75 u76 u77 u78 u79 u80 u81 u82 u83 u84 u85 u86 u87 u88 u89
        rename_i hKr
        refine hKr _ _ ?_
        clear hKr
        go_wp2
        go_ret
        exact ⟨_, rfl, rfl, by rw [Hw0.out]; exact hal⟩
    · clear hv ho hok hb5
      have hR := fun o => (MapKept.heap_alloc w5 o).1
      have hQ6 := fun o => keepH hQ5 ((Below.refl w5.heap.size w5).alloc (Nat.le_refl _) o)
      have hRr := hR (.cells #[.int .u64 z] 24)
      have hQq := hQ6 (.cells #[.int .u64 z] 24)
      clear hR hQ6
      have hal := al (.cells #[.int .u64 z] 24)
      clear al
      have lw5 := lQ
      go_wp2_with fail
      generalize w5.alloc (.cells #[.int .u64 z] 24) = w6 at *
      generalize w5.heap.size = R at *
      refine (hB2 _).mono ?_
      rintro e w7 ⟨r2, rfl, hv2, hb7⟩
      have hRr := keepH hRr hb7
      have hQq := keepH hQq hb7
      have lN6 : N0 ≤ w6.heap.size := by rw [← Hw0.out]; exact hal.size
      have hb7 := hal.trans (hb7.mono lN6)
      have lN7 : N0 ≤ w7.heap.size := by rw [← Hw0.out]; exact hb7.size
      have hS := fun o => (MapKept.heap_alloc w7 o).1
      have hR8 := fun o => keepH hRr ((Below.refl w7.heap.size w7).alloc (Nat.le_refl _) o)
      have al := fun o => hb7.alloc lN7 o
      clear hQq hRr hal
      have := huniq r2 hv2
      subst this
      clear hv2 huniq
      have hSs := hS (.cells #[.int .u64 z] 24)
      have hRr := hR8 (.cells #[.int .u64 z] 24)
      have hal := al (.cells #[.int .u64 z] 24)
      clear hS hR8 al
      go_upto_region 13 with (fail)
      generalize w7.alloc (.cells #[.int .u64 z] 24) = w8 at *
      generalize w7.heap.size = S at *
      refine fair_r13a hRr hSs _ _ _ _ _ _ _ _ _ _ _ _ _ _ _ _ _ _ _ _ _ _ _ _ _ _ _ _ _ _ _ _ _ _ _ _ _ _ _ _ _ _ _ _ _ _ _ _ _ _ _ _ _ _ _ _ _ _ _ _ _ _ _ _ _ _ _ _ _ _ _ _ _ _ _ _ _ _ _ _ _ _ _ _ _ _ ?_
      intro u73 u74 u75 u76 u77 u78 u79 u80 u81 u82 u83 u84 u85 u86 u87 u88 u89
      rename_i hKr
      refine hKr _ _ ?_
      clear hKr
      go_wp2
      go_ret
      exact ⟨_, rfl, rfl, by rw [Hw0.out]; exact hal⟩
end Go.Proofs.YtmfjieldgcdhoaaGreat
