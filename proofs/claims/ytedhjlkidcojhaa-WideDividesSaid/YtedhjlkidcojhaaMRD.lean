/-
  The law WideDivides answers true, for every three drafts.
-/
import Derived.Test.YtedhjlkidcojhaaMRC
import Derived.Test.YtedhjlkidcojhaaMQE
set_option linter.all false
namespace Go.Proofs.Ytedhjlkidcojhaa
open Go Go.Rx Go.RowKit Go.Big
attribute [local instance] noAv
def divIn (u v t : Bool) (A B : V1) : List Row := [⟨8, [], .s (b1 true)⟩, ⟨14, [dr 0 u, i1 200], .s A⟩, ⟨14, [dr 1 v, i1 200], .s B⟩, ⟨27, [dr 2 t], .s (.one (.ex .i64 eS))⟩]
def divRows0 : List Row := [⟨23, [.one (.ex .i64 eS)], .s (inN 3)⟩, ⟨28, [z8, z8], .tup [z8, i1 0]⟩]
def dvsRows : List Row := [⟨23, [.one (.ex .i64 eS)], .s (inN 3)⟩, ⟨28, [inN 0, inN 1], .tup [inN 2, i1 0]⟩, ⟨18, [inN 0, inN 2], .tup [inN 8, z8, i1 0]⟩, ⟨18, [inN 1, inN 2], .tup [inN 9, z8, i1 0]⟩, ⟨17, [inN 0, inN 3], .tup [inN 4, i1 0]⟩, ⟨17, [inN 1, inN 3], .tup [inN 5, i1 0]⟩, ⟨28, [inN 4, inN 5], .tup [inN 6, i1 0]⟩, ⟨17, [inN 2, inN 3], .tup [inN 7, i1 0]⟩, ⟨20, [inN 7], .tup [inN 6, i1 0]⟩, ⟨21, [inN 2], .s (i1 1)⟩]
def dvsRow (u v t : Bool) : Row := ⟨6, [dr 0 u, dr 1 v, dr 2 t], .s (b1 true)⟩
theorem dvs_run0 (L : Lets) (u v t : Bool) : runL L (divIn u v t z8 z8 ++ divRows0) [] (dvsRow u v t) 400 = true := by
  cases u <;> cases v <;> cases t <;> kernel_rfl
theorem div_run_0 (L : Lets) (u v t : Bool) (x : Nat → Bool) : runL L (divIn u v t (inN 0) (inN 1) ++ dvsRows) (same8 6 ++ notZero 0 x) (dvsRow u v t) 400 = true := by
  cases u <;> cases v <;> cases t <;> kernel_rfl
theorem div_run_1 (L : Lets) (u v t : Bool) (x : Nat → Bool) : runL L (divIn u v t (inN 0) (inN 1) ++ dvsRows) (same8 6 ++ notZero 1 x) (dvsRow u v t) 400 = true := by
  cases u <;> cases v <;> cases t <;> kernel_rfl
theorem div_run_2 (L : Lets) (u v t : Bool) (x : Nat → Bool) : runL L (divIn u v t (inN 0) (inN 1) ++ dvsRows) (same8 6 ++ notZero 2 x) (dvsRow u v t) 400 = true := by
  cases u <;> cases v <;> cases t <;> kernel_rfl
theorem div_run_3 (L : Lets) (u v t : Bool) (x : Nat → Bool) : runL L (divIn u v t (inN 0) (inN 1) ++ dvsRows) (same8 6 ++ notZero 3 x) (dvsRow u v t) 400 = true := by
  cases u <;> cases v <;> cases t <;> kernel_rfl
theorem div_run_4 (L : Lets) (u v t : Bool) (x : Nat → Bool) : runL L (divIn u v t (inN 0) (inN 1) ++ dvsRows) (same8 6 ++ notZero 4 x) (dvsRow u v t) 400 = true := by
  cases u <;> cases v <;> cases t <;> kernel_rfl
theorem div_run_5 (L : Lets) (u v t : Bool) (x : Nat → Bool) : runL L (divIn u v t (inN 0) (inN 1) ++ dvsRows) (same8 6 ++ notZero 5 x) (dvsRow u v t) 400 = true := by
  cases u <;> cases v <;> cases t <;> kernel_rfl
theorem div_run_6 (L : Lets) (u v t : Bool) (x : Nat → Bool) : runL L (divIn u v t (inN 0) (inN 1) ++ dvsRows) (same8 6 ++ notZero 6 x) (dvsRow u v t) 400 = true := by
  cases u <;> cases v <;> cases t <;> kernel_rfl
theorem div_run_7 (L : Lets) (u v t : Bool) (x : Nat → Bool) : runL L (divIn u v t (inN 0) (inN 1) ++ dvsRows) (same8 6 ++ notZero 7 x) (dvsRow u v t) 400 = true := by
  cases u <;> cases v <;> cases t <;> kernel_rfl
theorem div_run (L : Lets) (u v t : Bool) (j : Nat) (hj : j < 8) (x : Nat → Bool) : runL L (divIn u v t (inN 0) (inN 1) ++ dvsRows) (same8 6 ++ notZero j x) (dvsRow u v t) 400 = true := by
  match j, hj with
  | 0, _ => exact div_run_0 L u v t x
  | 1, _ => exact div_run_1 L u v t x
  | 2, _ => exact div_run_2 L u v t x
  | 3, _ => exact div_run_3 L u v t x
  | 4, _ => exact div_run_4 L u v t x
  | 5, _ => exact div_run_5 L u v t x
  | 6, _ => exact div_run_6 L u v t x
  | 7, _ => exact div_run_7 L u v t x
/-- 6 2^199 + 3. -/
def A200 : Int := 6 * 2 ^ 199 + 3
theorem a200 : A200 = 4820814132776970826625886277023487807566608981348378505904131 := by unfold A200; decide
/-- The numbers of the law. -/
def divNums (a b c : Int) (G : Nat) : Nat → Nat := lst [un a, un b, un (G : Int), un c, un (a * c), un (b * c), un ((G * c.natAbs : Nat) : Int), un ((G : Int) * c), un (a / G), un (b / G), 0, (c % 18446744073709551616).toNat]
theorem gcd_le {a b : Int} (ha : -A200 ≤ a ∧ a ≤ A200) (hb : -A200 ≤ b ∧ b ≤ A200) : ((Nat.gcd a.natAbs b.natAbs : Nat) : Int) ≤ A200 := by
  rcases Nat.eq_zero_or_pos a.natAbs with h | h
  · rw [h, Nat.gcd_zero_left]; omega
  · have := Nat.le_of_dvd h (Nat.gcd_dvd_left a.natAbs b.natAbs)
    omega
theorem fit_of {x : Int} (h : -5427754182999196660479889922282245680622030531201901439349574250370927951875 ≤ x ∧ x ≤ 5427754182999196660479889922282245680622030531201901439349574250370927951875) : fit x := by unfold fit P511; omega
theorem div_rows {a b c : Int} (ha : -A200 ≤ a ∧ a ≤ A200) (hb : -A200 ≤ b ∧ b ≤ A200) (hc : -1000000 ≤ c ∧ c ≤ 1000000) (h0 : Nat.gcd a.natAbs b.natAbs ≠ 0) : ∀ r ∈ dvsRows, RowGives Try.prog (sigN (divNums a b c (Nat.gcd a.natAbs b.natAbs))) r := by
  have hG := gcd_le ha hb
  have d1 : ((Nat.gcd a.natAbs b.natAbs : Nat) : Int) ∣ a := Int.ofNat_dvd_left.2 (Nat.gcd_dvd_left _ _)
  have d2 : ((Nat.gcd a.natAbs b.natAbs : Nat) : Int) ∣ b := Int.ofNat_dvd_left.2 (Nat.gcd_dvd_right _ _)
  have gm : Nat.gcd (a * c).natAbs (b * c).natAbs = Nat.gcd a.natAbs b.natAbs * c.natAbs := by rw [Int.natAbs_mul, Int.natAbs_mul, Nat.gcd_mul_right]
  have hgc := f_Gcd a b
  generalize Nat.gcd a.natAbs b.natAbs = G at *
  have m1 := bnd_mul ha (show -1000000 ≤ c ∧ c ≤ 1000000 from hc)
  have m2 := bnd_mul hb (show -1000000 ≤ c ∧ c ≤ 1000000 from hc)
  have m3 := bnd_mul (A := A200) (show -A200 ≤ (G : Int) ∧ (G : Int) ≤ A200 by rw [a200] at *; omega) (show -1000000 ≤ c ∧ c ≤ 1000000 from hc)
  have m4 : ((G * c.natAbs : Nat) : Int) = ((G : Int) * c).natAbs := by rw [Int.natAbs_mul, Int.natAbs_natCast]
  have q1 := div_bnd (x := a) (y := (G : Int)) (by omega)
  have q2 := div_bnd (x := b) (y := (G : Int)) (by omega)
  rw [a200] at ha hb hG m1 m2 m3
  have fa : fit a := fit_of (by omega)
  have fb : fit b := fit_of (by omega)
  have fG : fit (G : Int) := fit_of (by omega)
  have fc : fit c := fit_of (by omega)
  have fm : fit (a * c) := fit_of (by omega)
  have fn : fit (b * c) := fit_of (by omega)
  have fp : fit ((G : Int) * c) := fit_of (by omega)
  have fw : fit ((G * c.natAbs : Nat) : Int) := fit_of (by omega)
  have fq : fit (a / G) := fit_of (by omega)
  have fr : fit (b / G) := fit_of (by omega)
  have n0 : divNums a b c G 0 = un a := rfl
  have n1 : divNums a b c G 1 = un b := rfl
  have n2 : divNums a b c G 2 = un (G : Int) := rfl
  have n3 : divNums a b c G 3 = un c := rfl
  have n4 : divNums a b c G 4 = un (a * c) := rfl
  have n5 : divNums a b c G 5 = un (b * c) := rfl
  have n6 : divNums a b c G 6 = un ((G * c.natAbs : Nat) : Int) := rfl
  have n7 : divNums a b c G 7 = un ((G : Int) * c) := rfl
  have n8 : divNums a b c G 8 = un (a / G) := rfl
  have n9 : divNums a b c G 9 = un (b / G) := rfl
  have n11 : divNums a b c G 11 = (c % 18446744073709551616).toNat := rfl
  generalize divNums a b c G = g at *
  have vS := eS_val hc n11
  have hres : ∀ x : Int, fit x → resV x (fit x) = outV x := fun x h => by unfold resV; rw [if_pos h]
  intro r hr
  simp only [dvsRows, List.mem_cons, List.not_mem_nil, or_false] at hr
  rcases hr with rfl | rfl | rfl | rfl | rfl | rfl | rfl | rfl | rfl | rfl
  · refine row_of (f_Of c (by omega) (by omega)) rfl ?_ (by rw [valV_s, val_W g 3 n3])
    show [Value.int .i64 (eS.eval (sigN g))] = _
    rw [vS]
  · have := hgc fa fb
    rw [hres _ fG] at this
    exact row_two this n0 n1 n2
  · have h := div_out fa fG (by omega) fq
    rw [Int.emod_eq_zero_of_dvd d1] at h
    refine row_of h rfl (by simp only [List.map_cons, List.map_nil, val_W g 0 n0, val_W g 2 n2]) ?_
    simp only [valV, List.map_cons, List.map_nil, val_W g 8 n8, val_Z, val_i1]
  · have h := div_out fb fG (by omega) fr
    rw [Int.emod_eq_zero_of_dvd d2] at h
    refine row_of h rfl (by simp only [List.map_cons, List.map_nil, val_W g 1 n1, val_W g 2 n2]) ?_
    simp only [valV, List.map_cons, List.map_nil, val_W g 9 n9, val_Z, val_i1]
  · exact row_two (mul_out fa fc fm) n0 n3 n4
  · exact row_two (mul_out fb fc fn) n1 n3 n5
  · have h := f_Gcd (a * c) (b * c) fm fn
    rw [gm, hres _ fw] at h
    exact row_two h n4 n5 n6
  · exact row_two (mul_out fG fc fp) n2 n3 n7
  · have h := abs_out fp (by rw [← m4]; exact fw)
    rw [← m4] at h
    refine row_of h rfl (by simp only [List.map_cons, List.map_nil, val_W g 7 n7]) ?_
    simp only [valV_tup2, val_W g 6 n6, val_i1]; rfl
  · refine row_of (f_Sign _ fG) rfl (by simp only [List.map_cons, List.map_nil, val_W g 2 n2]) ?_
    rw [valV_s, val_i1]
    congr 1
    unfold cmpI
    rw [if_neg (by omega), if_pos (by omega)]
theorem div_rows0 {c : Int} (hc : -1000000 ≤ c ∧ c ≤ 1000000) : ∀ r ∈ divRows0, RowGives Try.prog (sigN (divNums 0 0 c 0)) r := by
  have fz : fit 0 := fit_of (by omega)
  have n3 : divNums 0 0 c 0 3 = un c := rfl
  have n11 : divNums 0 0 c 0 11 = (c % 18446744073709551616).toNat := rfl
  generalize divNums 0 0 c 0 = g at *
  have vS := eS_val hc n11
  intro r hr
  simp only [divRows0, List.mem_cons, List.not_mem_nil, or_false] at hr
  rcases hr with rfl | rfl
  · refine row_of (f_Of c (by omega) (by omega)) rfl ?_ (by rw [valV_s, val_W g 3 n3])
    show [Value.int .i64 (eS.eval (sigN g))] = _
    rw [vS]
  · have h := f_Gcd 0 0 fz fz
    rw [show Nat.gcd (0 : Int).natAbs (0 : Int).natAbs = 0 from rfl] at h
    unfold resV at h
    rw [if_pos (show fit ((0 : Nat) : Int) from fz)] at h
    refine row_of h rfl (by simp only [List.map_cons, List.map_nil, val_Z]) ?_
    simp only [valV_tup2, val_Z, val_i1]
    rfl
theorem divides_c {U : World} {u v t : Bool} {xv yv zv : Value} {xb yb zb : List Int} {xl yl zl : Int} (hx : DraftOk U xv xb xl) (hy : DraftOk U yv yb yl) (hz : DraftOk U zv zb zl) :
    Calls Try.prog 6 #[.agg #[.bool u, xv, .int .u32 xl], .agg #[.bool v, yv, .int .u32 yl], .agg #[.bool t, zv, .int .u32 zl]] U (Gets (fun _ r => r = .bool true) U) := by
  obtain ⟨xa, xc, rfl, -⟩ := hx.row.len
  obtain ⟨ya, yc, rfl, -⟩ := hy.row.len
  obtain ⟨za, zc, rfl, -⟩ := hz.row.len
  have q0 : ∀ j : Nat, (j : Int) < 200 → (2 : Int) ^ j ≤ 2 ^ 199 := lt_pow rfl
  have p199 : (2 : Int) ^ 199 = 803469022129495137770981046170581301261101496891396417650688 := by decide
  have a0 : 0 < (2 : Int) ^ 199 := by rw [p199]; decide
  have a1 : (2 : Int) ^ 199 ≤ pw 16 := by rw [p199]; decide
  have a2 : 6 * (2 : Int) ^ 199 + 3 < P511 := by rw [p199]; unfold P511; decide
  have ha : -A200 ≤ withVal 200 u xb xl ∧ withVal 200 u xb xl ≤ A200 := with_bnd (by decide) a0 q0 u xb xl
  have hb : -A200 ≤ withVal 200 v yb yl ∧ withVal 200 v yb yl ≤ A200 := with_bnd (by decide) a0 q0 v yb yl
  have hsb := small_bnd t zl
  have key : ∀ (σ : Nat → Int) (A B : V1), ok1 A = true → ok1 B = true → val1 σ A = W (withVal 200 u xb xl) → val1 σ B = W (withVal 200 v yb yl) → eS.eval σ = (if t = true then -(zl % 1000001) else zl % 1000001) → ∀ rs ts, (∀ r ∈ rs, RowGives Try.prog σ r) → (∀ t ∈ ts, TestOk σ t) →
      runL (ringLets xa ya za xb.length xc yb.length yc zb.length zc xl yl zl σ) (divIn u v t A B ++ rs) ts (dvsRow u v t) 400 = true →
      Calls Try.prog 6 #[.agg #[.bool u, .slice xa xb.length xc, .int .u32 xl], .agg #[.bool v, .slice ya yb.length yc, .int .u32 yl], .agg #[.bool t, .slice za zb.length zc, .int .u32 zl]] U (Gets (fun _ r => r = .bool true) U) := by
    intro σ A B okA okB h0 h1 hS rs ts hrs hts hrun
    have hE : EnvOk (envL (ringLets xa ya za xb.length xc yb.length yc zb.length zc xl yl zl σ) (divIn u v t A B ++ rs) ts) U := by
      refine envL_ok (fun r hr => ?_) hts
      simp only [divIn, List.mem_append, List.mem_cons, List.not_mem_nil, or_false] at hr
      rcases hr with (rfl | rfl | rfl | rfl) | hr
      · exact rowL_of ⟨rfl, g_works⟩
      · exact with_row 200 (2 ^ 199) (by decide) a0 a1 q0 a2 hx rfl rfl okA h0
      · exact with_row 200 (2 ^ 199) (by decide) a0 a1 q0 a2 hy rfl rfl okB h1
      · refine small_row rfl rfl hz.l0 hz.l1 rfl ?_
        show Value.int .i64 (eS.eval σ) = _
        rw [hS]
      · exact rowL_of (hrs r hr)
    have hD : ∀ (k : Nat) (b : Bool) (p q : Value) (L : Lets), L.opq (2 * k) = p → L.opq (2 * k + 1) = q → D1 (noLoc L) (dr k b) (.agg #[.bool b, p, q]) := fun k b p q L e1 e2 => by
      subst e1; subst e2
      exact .agg (.cons (.v rfl) (.cons .opq (.cons .opq .nil)))
    obtain ⟨-, h⟩ := call_run hE hrun (xs := [.agg #[.bool u, .slice xa xb.length xc, .int .u32 xl], .agg #[.bool v, .slice ya yb.length yc, .int .u32 yl], .agg #[.bool t, .slice za zb.length zc, .int .u32 zl]])
      (.cons (hD 0 u _ _ _ rfl rfl) (.cons (hD 1 v _ _ _ rfl rfl) (.cons (hD 2 t _ _ _ rfl rfl) .nil)))
    refine Calls.mono h fun e w' he => ?_
    obtain ⟨rfl, hb⟩ := he
    exact ⟨_, rfl, rfl, hb⟩
  generalize (if t = true then -(zl % 1000001) else zl % 1000001) = c at *
  by_cases h0 : Nat.gcd (withVal 200 u xb xl).natAbs (withVal 200 v yb yl).natAbs = 0
  · obtain ⟨h1, h2⟩ := Nat.gcd_eq_zero_iff.1 h0
    refine key (sigN (divNums 0 0 c 0)) z8 z8 rfl rfl ?_ ?_ (eS_val hsb rfl) _ [] (div_rows0 hsb) no_test (dvs_run0 _ u v t)
    · rw [show withVal 200 u xb xl = 0 by omega]; exact val_Z _
    · rw [show withVal 200 v yb yl = 0 by omega]; exact val_Z _
  · have hG := gcd_le ha hb
    have hrows := div_rows ha hb hsb h0
    generalize hGe : Nat.gcd (withVal 200 u xb xl).natAbs (withVal 200 v yb yl).natAbs = G at *
    have hn : un (G : Int) ≠ 0 := by
      have := un_pos (x := (G : Int)) (by rw [a200] at hG; exact fit_of (by omega)) (by omega)
      omega
    obtain ⟨j, j1, j2, j3⟩ := low_digit (un_lt (G : Int)) hn
    refine key (sigN (divNums (withVal 200 u xb xl) (withVal 200 v yb yl) c G)) (inN 0) (inN 1) rfl rfl ?_ ?_ (eS_val hsb rfl) _ _ hrows ?_ (div_run _ u v t j j1 (fun i => decide (dig (un (G : Int)) i = 0)))
    · rw [val_inN]; rfl
    · rw [val_inN]; rfl
    · intro q hq
      rcases List.mem_append.1 hq with hq | hq
      · exact same8_ok 6 q hq
      · exact notZero_ok (g := divNums (withVal 200 u xb xl) (withVal 200 v yb yl) c G) j2 j3 q hq
end Go.Proofs.Ytedhjlkidcojhaa
