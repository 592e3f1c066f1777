/-
  The law WideBack answers true, for every wide integer, two drafts, every text and two integers.
-/
import Derived.Test.YtaafimabgcnbaabGreatDoorMBC
import Derived.Test.YtaafimabgcnbaabGreatDoorMBD
import Derived.Test.YtaafimabgcnbaabGreatDoorMTX
import Derived.Test.YtaafimabgcnbaabGreatDoorMI
import Derived.Test.YtaafimabgcnbaabGreatDoorMY
set_option linter.all false
namespace Go.Proofs.YtaafimabgcnbaabGreatDoor
open Go Go.Rx Go.RowKit Go.Big
attribute [local instance] noAv
theorem pow_499 (j : Nat) (h : (j : Int) < 500) : (2 : Int) ^ j ≤ 2 ^ 499 := by
  have h1 := Nat.pow_le_pow_right (show 0 < 2 by decide) (show j ≤ 499 by omega)
  have h2 : ∀ k : Nat, ((2 ^ k : Nat) : Int) = (2 : Int) ^ k := fun k => by rw [Int.natCast_pow]; rfl
  rw [← h2, ← h2]; omega
theorem p499 : (2 : Int) ^ 499 = 1636695303948070935006594848413799576108321023021532394741645684048066898202337277441635046162952078575443342063780035504608628272942696526664263794688 := by decide +kernel
theorem fold_bnd {lim P : Int} (hlim : 0 < lim) (hP : 0 < P) (hPj : ∀ j : Nat, (j : Int) < lim → (2 : Int) ^ j ≤ P) (bits : List Int) : ∀ k : Nat, 0 ≤ (withFold lim bits k).2 ∧ (withFold lim bits k).2 ≤ k * P
  | 0 => ⟨Int.le_refl _, by simp [withFold]⟩
  | k + 1 => by
    obtain ⟨h1, h2⟩ := fold_bnd hlim hP hPj bits k
    have e : ((k + 1 : Nat) : Int) * P = k * P + P := by rw [show ((k + 1 : Nat) : Int) = (k : Int) + 1 by omega, Int.add_mul, Int.one_mul]
    rw [e]
    by_cases hk : k < bits.length
    · rw [withFold_next hk]
      unfold withStep
      split
      · omega
      · have h3 := Int.emod_nonneg (bits.getD k 0) (show lim ≠ 0 by omega)
        have h4 := Int.emod_lt_of_pos (bits.getD k 0) hlim
        have h5 := hPj ((bits.getD k 0) % lim).toNat (by omega)
        have h6 : (0 : Int) ≤ 2 ^ ((bits.getD k 0) % lim).toNat := Int.le_of_lt (Int.pow_pos (by decide))
        simp only
        omega
    · have : withFold lim bits (k + 1) = withFold lim bits k := by
        unfold withFold
        rw [List.take_of_length_le (by omega), List.take_of_length_le (by omega)]
      rw [this]; omega
theorem with_bnd {lim P : Int} (hlim : 0 < lim) (hP : 0 < P) (hPj : ∀ j : Nat, (j : Int) < lim → (2 : Int) ^ j ≤ P) (b : Bool) (bits : List Int) (l : Int) : -(6 * P + 3) ≤ withVal lim b bits l ∧ withVal lim b bits l ≤ 6 * P + 3 := by
  obtain ⟨h1, h2⟩ := fold_bnd hlim hP hPj bits 6
  have h3 : 0 ≤ l % 4 ∧ l % 4 < 4 := by omega
  unfold withVal
  cases b <;> simp only [cond_true, cond_false] <;> omega
theorem with500 {U : World} {bv : Value} {b : Bool} {l : Int} {bits : List Int} (h : DraftOk U bv bits l) : ∃ x : Int, (-(6 * 1636695303948070935006594848413799576108321023021532394741645684048066898202337277441635046162952078575443342063780035504608628272942696526664263794688 + 3) ≤ x ∧ x ≤ 6 * 1636695303948070935006594848413799576108321023021532394741645684048066898202337277441635046162952078575443342063780035504608628272942696526664263794688 + 3) ∧
    ∀ V, Below U.heap.size U V → Calls Tryz.prog 8 #[.agg #[.bool b, bv, .int .u32 l], .int .i64 500] V (Gets (fun _ r => r = W x) V) := by
  have hc : ∀ V, Below U.heap.size U V → _ := fun V hV => within_g (b := b) 500 (2 ^ 499) (by decide) (by rw [p499]; decide) (by rw [p499]; decide +kernel) pow_499 (by rw [p499]; unfold P511; decide) (h.below hV).row (h.below hV).u16 (h.below hV).len (h.below hV).l0 (h.below hV).l1
  refine ⟨withVal 500 b bits l, ?_, fun V hV => (hc V hV).mono fun e w' he => ?_⟩
  · have h1 := with_bnd (lim := 500) (P := 2 ^ 499) (by decide) (by rw [p499]; decide) pow_499 b bits l
    rw [p499] at h1
    exact h1
  · obtain ⟨v, rfl, ⟨rfl, -, -⟩, hb⟩ := he
    exact ⟨_, rfl, rfl, hb⟩
set_option maxHeartbeats 8000000 in
set_option maxRecDepth 100000 in
theorem back_law {w : World} {xa : Int} {a0 a1 a2 a3 a4 a5 a6 a7 : Int} (fa : fit xa) (hwa : W xa = .agg #[.int .u64 a0, .int .u64 a1, .int .u64 a2, .int .u64 a3, .int .u64 a4, .int .u64 a5, .int .u64 a6, .int .u64 a7]) {bx by_ : Bool} {vx vy : Value} {bitsx bitsy : List Int} {lx ly : Int} (hX : DraftOk w vx bitsx lx) (hY : DraftOk w vy bitsy ly) {s : ByteArray} {m n : Int}
    (hm0 : -9223372036854775808 ≤ m) (hm1 : m ≤ 9223372036854775807) (hn0 : -9223372036854775808 ≤ n) (hn1 : n ≤ 9223372036854775807)
    (htab : Lib.TabIs Tryz.prog w "internal/strconv.uint64pow10" .u64 Lib.pow10Tab) :
    Calls Tryz.prog 3 #[.agg #[.int .u64 a0, .int .u64 a1, .int .u64 a2, .int .u64 a3, .int .u64 a4, .int .u64 a5, .int .u64 a6, .int .u64 a7], .agg #[.bool bx, vx, .int .u32 lx], .agg #[.bool by_, vy, .int .u32 ly], .string s, .int .i64 m, .int .i64 n] w (Gets (fun _ r => r = .bool true) w) := by
  obtain ⟨x, hxb, hWx⟩ := with500 (b := bx) hX
  obtain ⟨y, hyb, hWy⟩ := with500 (b := by_) hY
  have fx : fit x := by unfold fit P511; omega
  have fy : fit y := by unfold fit P511; omega
  have fd : fit (x - y) := by unfold fit P511; omega
  have fm : fit m := by unfold fit P511; omega
  have fn : fit n := by unfold fit P511; omega
  have hWorks : ∀ U, Calls Tryz.prog 4 #[] U (Gets (fun _ r => r = .bool true) U) := gives_gets g_works
  have hSub := fun U => gives_gets (f_Sub x y fx fy) U
  rw [show resV (x - y) (fit (x - y)) = .tuple #[W (x - y), .int .i64 0] by unfold resV; rw [if_pos fd]; rfl] at hSub
  have hCmp := fun U => gives_gets (f_Cmp x y fx fy) U
  have hSgn := fun U => gives_gets (f_Sign (x - y) fd) U
  have hOm := fun U => gives_gets (f_Of m hm0 hm1) U
  have hOn := fun U => gives_gets (f_Of n hn0 hn1) U
  have hCmn := fun U => gives_gets (f_Cmp m n fm fn) U
  have hInt := fun U => gives_gets (f_Int m fm) U
  rw [cmpI_sub] at hSgn
  rw [show intR m = .tuple #[.int .i64 m, .int .i64 0] by unfold intR; rw [if_pos ⟨hm0, hm1⟩]] at hInt
  obtain ⟨x0, x1, x2, x3, x4, x5, x6, x7, -, -, ex⟩ := words_of fx
  obtain ⟨y0, y1, y2, y3, y4, y5, y6, y7, -, -, ey⟩ := words_of fy
  obtain ⟨d0, d1, d2, d3, d4, d5, d6, d7, -, -, ed⟩ := words_of fd
  obtain ⟨p0, p1, p2, p3, p4, p5, p6, p7, -, -, em⟩ := words_of fm
  obtain ⟨q0, q1, q2, q3, q4, q5, q6, q7, -, -, en⟩ := words_of fn
  simp only [ex, ey, ed, em, en] at hWx hWy hSub hCmp hSgn hOm hOn hCmn hInt
  obtain ⟨told, htold⟩ : ∃ told : ByteArray, (⟨(Lib.itoa xa).toArray⟩ : ByteArray) = told := ⟨_, rfl⟩
  have hts : told.size ≤ 155 := by rw [← htold, size_mk]; exact itoa_len fa
  have hText := fun U (hU : Below w.heap.size w U) => text_c (w := U) fa (tab_below htab hU)
  have hPar : ∀ U, Calls Tryz.prog 6 #[.string told] U (Gets (fun _ r => r = .tuple #[W xa, .int .i64 0]) U) := fun U => by
    obtain ⟨hr, hz⟩ := itoa_right xa
    have h := (parse_own ⟨(Lib.itoa xa).toArray⟩ (by rw [htold]; omega)).1 hr U
    rw [hz, htold] at h
    unfold parseV at h
    rw [if_pos fa] at h
    exact h
  rw [hwa, htold] at hText
  rw [hwa] at hPar
  have hIs := fun U => is_c (U := U) a0 a1 a2 a3 a4 a5 a6 a7
  have f3 : 0 ≤ min (s.size : Int) 160 ∧ min (s.size : Int) 160 ≤ (s.size : Int) := by omega
  obtain ⟨s2, hs2⟩ : ∃ s2 : ByteArray, s.extract 0 (min (s.size : Int) 160).toNat = s2 := ⟨_, rfl⟩
  have hz2 : s2.size ≤ 1000000 := by rw [← hs2, ByteArray.size_extract]; omega
  have hP2 := parse_own s2 hz2
  have htabs := fun U (hU : Below w.heap.size w U) => tab_below htab hU
  have hc155 : ¬ (155 : Int) < (told.size : Int) := by omega
  clear htab htold hm0 hm1 hn0 hn1 hX hY hxb hyb fa hts
  obtain ⟨k6, k7, k8⟩ := heap3 w (.cells #[.int .u64 a0, .int .u64 a1, .int .u64 a2, .int .u64 a3, .int .u64 a4, .int .u64 a5, .int .u64 a6, .int .u64 a7] 24) (.cells #[.bool bx, vx, .int .u32 lx] 28) (.cells #[.bool by_, vy, .int .u32 ly] 28)
  have bw : Below w.heap.size w (((w.alloc (.cells #[.int .u64 a0, .int .u64 a1, .int .u64 a2, .int .u64 a3, .int .u64 a4, .int .u64 a5, .int .u64 a6, .int .u64 a7] 24)).alloc (.cells #[.bool bx, vx, .int .u32 lx] 28)).alloc (.cells #[.bool by_, vy, .int .u32 ly] 28)) := below_al (below_al (below_al (Below.refl _ _) _) _) _
  go_enter Tryz.func3, Tryz.ntmps3
  go_wp2_with fail
  generalize ((w.alloc (.cells #[.int .u64 a0, .int .u64 a1, .int .u64 a2, .int .u64 a3, .int .u64 a4, .int .u64 a5, .int .u64 a6, .int .u64 a7] 24)).alloc (.cells #[.bool bx, vx, .int .u32 lx] 28)).alloc (.cells #[.bool by_, vy, .int .u32 ly] 28) = w0 at *
  with_reducible refine (hWorks _).mono ?_
  rintro e w1 ⟨v, rfl, rfl, hb1⟩
  have b1 : Below w.heap.size w w1 := next0 bw hb1
  have k6 := carry k6 hb1
  have k7 := carry k7 hb1
  have k8 := carry k8 hb1
  clear hb1 bw hWorks
  have l6 := lt_of_heap k6
  have allA : ∀ U, Below w1.heap.size w1 U → U.cell? ⟨w.heap.size, 0, none⟩ = some (.int .u64 a0) ∧ U.cell? ⟨w.heap.size, 1, none⟩ = some (.int .u64 a1) ∧ U.cell? ⟨w.heap.size, 2, none⟩ = some (.int .u64 a2) ∧ U.cell? ⟨w.heap.size, 3, none⟩ = some (.int .u64 a3) ∧ U.cell? ⟨w.heap.size, 4, none⟩ = some (.int .u64 a4) ∧ U.cell? ⟨w.heap.size, 5, none⟩ = some (.int .u64 a5) ∧ U.cell? ⟨w.heap.size, 6, none⟩ = some (.int .u64 a6) ∧ U.cell? ⟨w.heap.size, 7, none⟩ = some (.int .u64 a7) := fun U hU => by
    have k1 := (hU.block _ l6).trans k6
    exact ⟨(cellOf (j := 0) k1).trans rfl, (cellOf (j := 1) k1).trans rfl, (cellOf (j := 2) k1).trans rfl, (cellOf (j := 3) k1).trans rfl, (cellOf (j := 4) k1).trans rfl, (cellOf (j := 5) k1).trans rfl, (cellOf (j := 6) k1).trans rfl, (cellOf (j := 7) k1).trans rfl⟩
  have c1 : Below w1.heap.size w1 w1.drew := (Below.refl _ _).drew
  have hTx := fun U (hU : Below w1.heap.size w1 U) => hText U (b1.trans (hU.mono b1.size))
  clear hText
  go_wp2_with fail
  go_region_held3 (fun w' => w'.cell? ⟨w.heap.size, 0, none⟩ = some (.int .u64 a0) ∧ w'.cell? ⟨w.heap.size, 1, none⟩ = some (.int .u64 a1) ∧ w'.cell? ⟨w.heap.size, 2, none⟩ = some (.int .u64 a2) ∧ w'.cell? ⟨w.heap.size, 3, none⟩ = some (.int .u64 a3) ∧ w'.cell? ⟨w.heap.size, 4, none⟩ = some (.int .u64 a4) ∧ w'.cell? ⟨w.heap.size, 5, none⟩ = some (.int .u64 a5) ∧ w'.cell? ⟨w.heap.size, 6, none⟩ = some (.int .u64 a6) ∧ w'.cell? ⟨w.heap.size, 7, none⟩ = some (.int .u64 a7))
    ((with_reducible first | exact allA _ c1 | exact allA _ c2 | exact allA _ c3 | exact allA _ c4 | exact allA _ c5 | exact allA _ c6))
    (first | (go_at_call 5; ((with_reducible refine (hIs _).mono ?_); rintro e w2 ⟨v, rfl, ⟨F, rfl, kF⟩, hb⟩; have c2 := next0 c1 hb)) | (go_at_call 7; ((with_reducible refine (hTx _ (by first | exact c5 | exact c2)).mono ?_); rintro e w3 ⟨v, rfl, rfl, hb⟩; first | (have c6 := next0 c5 hb) | (have c3 := next0 c2 hb; have kF := carry kF hb))) | (go_at_call 6; ((with_reducible refine (hPar _).mono ?_); rintro e w4 ⟨v, rfl, rfl, hb⟩; have c4 := next0 c3 hb; have kF := carry kF hb)) | (go_at_call 28; ((with_reducible refine (is1_c kF).mono ?_); rintro e w5 ⟨v, rfl, rfl, hb⟩; have c5 := next0 c4 hb)))
  have d1 : Below w.heap.size w _ := b1.trans (c6.mono b1.size)
  have k7 := (c6.block _ (Array.getElem?_eq_some_iff.1 k7).1).trans k7
  have k8 := (c6.block _ (Array.getElem?_eq_some_iff.1 k8).1).trans k8
  clear c1 c2 c3 c4 c5 c6 allA l6 k6 hTx hIs hPar kF b1
  go_wp2_with fail
  by_cases hr : RightD s2
  · have hPy := hP2.1 hr
    by_cases hf : fit (textZ s2 (right_num hr).1)
    · have hz := right_itoa hr
      unfold parseV at hPy
      simp only [if_pos hf] at hPy
      generalize textZ s2 (right_num hr).1 = z at *
      obtain ⟨v0, v1, v2, v3, v4, v5, v6, v7, -, -, ez⟩ := words_of hf
      have hT2 := fun U (hU : Below w.heap.size w U) => text_c (w := U) hf (htabs U hU)
      rw [ez, hz] at hT2
      have hPz : ∀ U, Calls Tryz.prog 6 #[.string s2] U (Gets (fun _ r => r = .tuple #[.agg #[.int .u64 v0, .int .u64 v1, .int .u64 v2, .int .u64 v3, .int .u64 v4, .int .u64 v5, .int .u64 v6, .int .u64 v7], .int .i64 0]) U) := fun U => by rw [← ez]; exact hPy U
      clear hPy hP2 hz ez htabs hf hr hs2
      with_reducible refine (hPz _).mono ?_
      rintro e w10 ⟨v, rfl, rfl, hb⟩
      have d2 : Below w.heap.size w (w10.alloc (.cells #[.int .u64 v0, .int .u64 v1, .int .u64 v2, .int .u64 v3, .int .u64 v4, .int .u64 v5, .int .u64 v6, .int .u64 v7] 24)) := below_al (d1.trans (hb.mono d1.size)) _
      have kz := (MapKept.heap_alloc w10 (.cells #[.int .u64 v0, .int .u64 v1, .int .u64 v2, .int .u64 v3, .int .u64 v4, .int .u64 v5, .int .u64 v6, .int .u64 v7] 24)).1
      have za : Below w10.heap.size w10 (w10.alloc (.cells #[.int .u64 v0, .int .u64 v1, .int .u64 v2, .int .u64 v3, .int .u64 v4, .int .u64 v5, .int .u64 v6, .int .u64 v7] 24)) := below_al (Below.refl _ _) _
      have k7 := carry (carry k7 hb) za
      have k8 := carry (carry k8 hb) za
      obtain ⟨⟨e0, e1, e2, e3, e4, e5, e6, e7⟩, -⟩ := cells8 kz
      clear hb za hPz d1 kz
      go_wp2_with fail
      clear e0 e1 e2 e3 e4 e5 e6 e7
      with_reducible refine (hT2 _ d2).mono ?_
      rintro e w11 ⟨v, rfl, rfl, hb⟩
      have d3 : Below w.heap.size w w11 := d2.trans (hb.mono d2.size)
      have k7 := carry k7 hb
      have k8 := carry k8 hb
      clear hb hT2 d2
      go_wp2_with fail
      rename_i hKr
      refine back_r9 k7 k8 (fun U hU => hWx U (d3.trans (hU.mono d3.size))) (fun U hU => hWy U (d3.trans (hU.mono d3.size))) _ _ _ _ _ _ _ _ _ _ _ _ _ _ _ _ _ _ _ _ _ _ _ _ _ _ _ _ _ _ _ _ _ _ _ _ _ _ _ _ _ _ _ _ _ _ _ _ _ _ _ _ _ _ _ _ _ _ _ _ _ _ _ _ _ _ _ _ _ _ _ _ _ _ _ _ _ _ _ _ _ _ _ _ _ _ _ _ _ _ _ _ _ _ _ _ _ _ _ _ _ _ _ _ _ _ _ _ _ _ _ _ _ _ _ _ _ _ _ _ _ (fun s15 s16 v67 v68 v69 v70 U hTW => ?_)
      obtain ⟨B, C, rfl, rfl, kB, kC, hb9⟩ := hTW
      refine hKr _ _ ?_
      refine back_rest kB kC fx fy ex ey hSub hCmp hSgn hOm hOn hCmn hInt _ _ _ _ _ _ _ _ _ _ _ _ _ _ _ _ _ _ _ _ _ _ _ _ _ _ _ _ _ _ _ _ _ _ _ _ _ _ _ _ _ _ _ _ _ _ _ _ _ _ _ _ _ _ _ _ _ _ _ _ _ _ _ _ _ _ _ _ _ _ _ _ _ _ _ _ _ _ _ _ _ _ _ _ _ _ _ _ _ _ _ _ _ _ _ _ _ _ _ _ _ _ _ _ _ _ _ _ _ _ _ _ _ _ _ _ _ _ (fun r17 r18 r19 r71 r72 r73 r74 r75 r76 r77 r78 r79 r80 r81 r82 r83 r84 r85 r86 r87 r88 r89 r90 r91 r92 r93 r94 r95 r96 r97 r98 r99 r100 r101 r102 r103 r104 r105 r106 r107 r108 r109 r110 r111 r112 r113 r114 r115 r116 r117 r118 r119 r120 V hB => ?_)
      have hfin : Below w.heap.size w V := (d3.trans (hb9.mono d3.size)).trans (hB.mono (d3.trans (hb9.mono d3.size)).size)
      go_ret
      exact ⟨_, rfl, rfl, hfin⟩
    · unfold parseV bigV at hPy
      simp only [if_neg hf, W0_eight] at hPy
      clear hP2 htabs hf
      with_reducible refine (hPy _).mono ?_
      rintro e w10 ⟨v, rfl, rfl, hb⟩
      have d2 : Below w.heap.size w (w10.alloc (.cells #[.int .u64 0, .int .u64 0, .int .u64 0, .int .u64 0, .int .u64 0, .int .u64 0, .int .u64 0, .int .u64 0] 24)) := below_al (d1.trans (hb.mono d1.size)) _
      have za : Below w10.heap.size w10 (w10.alloc (.cells #[.int .u64 0, .int .u64 0, .int .u64 0, .int .u64 0, .int .u64 0, .int .u64 0, .int .u64 0, .int .u64 0] 24)) := below_al (Below.refl _ _) _
      have k7 := carry (carry k7 hb) za
      have k8 := carry (carry k8 hb) za
      clear hb za hPy d1 hr hs2
      go_wp2_with fail
      rename_i hKr
      refine back_r9 k7 k8 (fun U hU => hWx U (d2.trans (hU.mono d2.size))) (fun U hU => hWy U (d2.trans (hU.mono d2.size))) _ _ _ _ _ _ _ _ _ _ _ _ _ _ _ _ _ _ _ _ _ _ _ _ _ _ _ _ _ _ _ _ _ _ _ _ _ _ _ _ _ _ _ _ _ _ _ _ _ _ _ _ _ _ _ _ _ _ _ _ _ _ _ _ _ _ _ _ _ _ _ _ _ _ _ _ _ _ _ _ _ _ _ _ _ _ _ _ _ _ _ _ _ _ _ _ _ _ _ _ _ _ _ _ _ _ _ _ _ _ _ _ _ _ _ _ _ _ _ _ _ (fun s15 s16 v67 v68 v69 v70 U hTW => ?_)
      obtain ⟨B, C, rfl, rfl, kB, kC, hb9⟩ := hTW
      refine hKr _ _ ?_
      refine back_rest kB kC fx fy ex ey hSub hCmp hSgn hOm hOn hCmn hInt _ _ _ _ _ _ _ _ _ _ _ _ _ _ _ _ _ _ _ _ _ _ _ _ _ _ _ _ _ _ _ _ _ _ _ _ _ _ _ _ _ _ _ _ _ _ _ _ _ _ _ _ _ _ _ _ _ _ _ _ _ _ _ _ _ _ _ _ _ _ _ _ _ _ _ _ _ _ _ _ _ _ _ _ _ _ _ _ _ _ _ _ _ _ _ _ _ _ _ _ _ _ _ _ _ _ _ _ _ _ _ _ _ _ _ _ _ _ (fun r17 r18 r19 r71 r72 r73 r74 r75 r76 r77 r78 r79 r80 r81 r82 r83 r84 r85 r86 r87 r88 r89 r90 r91 r92 r93 r94 r95 r96 r97 r98 r99 r100 r101 r102 r103 r104 r105 r106 r107 r108 r109 r110 r111 r112 r113 r114 r115 r116 r117 r118 r119 r120 V hB => ?_)
      have hfin : Below w.heap.size w V := (d2.trans (hb9.mono d2.size)).trans (hB.mono (d2.trans (hb9.mono d2.size)).size)
      go_ret
      exact ⟨_, rfl, rfl, hfin⟩
  · have hPn := hP2.2 hr
    simp only [W0_eight] at hPn
    clear hP2 htabs
    with_reducible refine (hPn _).mono ?_
    rintro e w10 ⟨v, rfl, rfl, hb⟩
    have d2 : Below w.heap.size w (w10.alloc (.cells #[.int .u64 0, .int .u64 0, .int .u64 0, .int .u64 0, .int .u64 0, .int .u64 0, .int .u64 0, .int .u64 0] 24)) := below_al (d1.trans (hb.mono d1.size)) _
    have za : Below w10.heap.size w10 (w10.alloc (.cells #[.int .u64 0, .int .u64 0, .int .u64 0, .int .u64 0, .int .u64 0, .int .u64 0, .int .u64 0, .int .u64 0] 24)) := below_al (Below.refl _ _) _
    have k7 := carry (carry k7 hb) za
    have k8 := carry (carry k8 hb) za
    clear hb za hPn d1 hr hs2
    go_wp2_with fail
    rename_i hKr
    refine back_r9 k7 k8 (fun U hU => hWx U (d2.trans (hU.mono d2.size))) (fun U hU => hWy U (d2.trans (hU.mono d2.size))) _ _ _ _ _ _ _ _ _ _ _ _ _ _ _ _ _ _ _ _ _ _ _ _ _ _ _ _ _ _ _ _ _ _ _ _ _ _ _ _ _ _ _ _ _ _ _ _ _ _ _ _ _ _ _ _ _ _ _ _ _ _ _ _ _ _ _ _ _ _ _ _ _ _ _ _ _ _ _ _ _ _ _ _ _ _ _ _ _ _ _ _ _ _ _ _ _ _ _ _ _ _ _ _ _ _ _ _ _ _ _ _ _ _ _ _ _ _ _ _ _ (fun s15 s16 v67 v68 v69 v70 U hTW => ?_)
    obtain ⟨B, C, rfl, rfl, kB, kC, hb9⟩ := hTW
    refine hKr _ _ ?_
    refine back_rest kB kC fx fy ex ey hSub hCmp hSgn hOm hOn hCmn hInt _ _ _ _ _ _ _ _ _ _ _ _ _ _ _ _ _ _ _ _ _ _ _ _ _ _ _ _ _ _ _ _ _ _ _ _ _ _ _ _ _ _ _ _ _ _ _ _ _ _ _ _ _ _ _ _ _ _ _ _ _ _ _ _ _ _ _ _ _ _ _ _ _ _ _ _ _ _ _ _ _ _ _ _ _ _ _ _ _ _ _ _ _ _ _ _ _ _ _ _ _ _ _ _ _ _ _ _ _ _ _ _ _ _ _ _ _ _ (fun r17 r18 r19 r71 r72 r73 r74 r75 r76 r77 r78 r79 r80 r81 r82 r83 r84 r85 r86 r87 r88 r89 r90 r91 r92 r93 r94 r95 r96 r97 r98 r99 r100 r101 r102 r103 r104 r105 r106 r107 r108 r109 r110 r111 r112 r113 r114 r115 r116 r117 r118 r119 r120 V hB => ?_)
    have hfin : Below w.heap.size w V := (d2.trans (hb9.mono d2.size)).trans (hB.mono (d2.trans (hb9.mono d2.size)).size)
    go_ret
    exact ⟨_, rfl, rfl, hfin⟩
end Go.Proofs.YtaafimabgcnbaabGreatDoor
