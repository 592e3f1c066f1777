/-
  The law WideRing answers true, for every three drafts.
  The argument 'a draft' of the laws, opened.
-/
import Derived.Test.YtedhjlkidcojhaaMY
import Derived.Test.YtedhjlkidcojhaaMZ
import Derived.Test.YtedhjlkidcojhaaMR
import Derived.Test.YtedhjlkidcojhaaMLG
set_option linter.all false
namespace Go.Proofs.Ytedhjlkidcojhaa
open Go Go.Rx Go.RowKit Go.Big
attribute [local instance] noAv
theorem lt_pow {lim : Int} {n : Nat} (h : lim = (n : Int) + 1) (j : Nat) (hj : (j : Int) < lim) : (2 : Int) ^ j ≤ 2 ^ n := by
  have h1 : j ≤ n := by omega
  have := Nat.pow_le_pow_right (show 0 < 2 by decide) h1
  exact_mod_cast this
/-- Within, as a row: the draft's row and number are letters. -/
theorem with_row {U : World} {L : Lets} {k : Nat} {b : Bool} {bv : Value} {l : Int} {bits : List Int} (lim P : Int) (hlim : 0 < lim ∧ lim ≤ 500) (hP : 0 < P) (hPw : P ≤ pw 16) (hPj : ∀ j : Nat, (j : Int) < lim → (2 : Int) ^ j ≤ P) (hP6 : 6 * P + 3 < P511)
    (hd : DraftOk U bv bits l) (h1 : L.opq (2 * k) = bv) (h2 : L.opq (2 * k + 1) = .int .u32 l) {c : V1} (hok : ok1 c = true) (hc : val1 L.num c = W (withVal lim b bits l)) : RowL Try.prog U L ⟨14, [dr k b, i1 lim], .s c⟩ := by
  intro ρ xs w hb hV hx
  obtain ⟨x1, xs1, rfl, k1, hx⟩ := hx.cons_inv
  obtain ⟨x2, xs2, rfl, k2, hx⟩ := hx.cons_inv
  cases hx
  obtain ⟨ys, rfl, hy⟩ := k1.agg_inv
  obtain ⟨y1, ys1, rfl, j1, hy⟩ := hy.cons_inv
  obtain ⟨y2, ys2, rfl, j2, hy⟩ := hy.cons_inv
  obtain ⟨y3, ys3, rfl, j3, hy⟩ := hy.cons_inv
  cases hy
  have e1 := j1.v_inv
  have e2 : y2 = bv := by rw [← h1, ← hV]; cases j2; rfl
  have e3 : y3 = .int .u32 l := by rw [← h2, ← hV]; cases j3; rfl
  have e4 := k2.one_inv.v_inv
  subst e1; subst e2; subst e3; subst e4
  have hd' := hd.below hb
  refine ⟨enters_of Try.func14 (by kernel_rfl) rfl _ _, (within_g lim P hlim hP hPw hPj hP6 hd'.row hd'.u16 hd'.len hd'.l0 hd'.l1).mono fun e w' he => ?_⟩
  obtain ⟨r, rfl, ⟨rfl, -, -⟩, hb'⟩ := he
  exact ⟨_, rfl, by rw [← hc, ← hV]; exact .s (ok1_val hok), hb'⟩
theorem fold_bnd {lim P : Int} (hlim : 0 < lim) (hP : 0 < P) (hPj : ∀ j : Nat, (j : Int) < lim → (2 : Int) ^ j ≤ P) (bits : List Int) : ∀ k : Nat, 0 ≤ (withFold lim bits k).2 ∧ (withFold lim bits k).2 ≤ k * P
  | 0 => ⟨Int.le_refl _, by simp [withFold]⟩
  | k + 1 => by
    obtain ⟨h1, h2⟩ := fold_bnd hlim hP hPj bits k
    have e : ((k + 1 : Nat) : Int) * P = k * P + P := by rw [show ((k + 1 : Nat) : Int) = (k : Int) + 1 by omega, Int.add_mul, Int.one_mul]
    rw [e]
    by_cases hk : k < bits.length
    · rw [withFold_next hk]
      unfold withStep
      split
      · omega
      · have h3 := Int.emod_nonneg (bits.getD k 0) (show lim ≠ 0 by omega)
        have h4 := Int.emod_lt_of_pos (bits.getD k 0) hlim
        have h5 := hPj ((bits.getD k 0) % lim).toNat (by omega)
        have h6 : (0 : Int) ≤ 2 ^ ((bits.getD k 0) % lim).toNat := Int.le_of_lt (Int.pow_pos (by decide))
        simp only
        omega
    · have : withFold lim bits (k + 1) = withFold lim bits k := by
        unfold withFold
        rw [List.take_of_length_le (by omega), List.take_of_length_le (by omega)]
      rw [this]; omega
theorem with_bnd {lim P : Int} (hlim : 0 < lim) (hP : 0 < P) (hPj : ∀ j : Nat, (j : Int) < lim → (2 : Int) ^ j ≤ P) (b : Bool) (bits : List Int) (l : Int) : -(6 * P + 3) ≤ withVal lim b bits l ∧ withVal lim b bits l ≤ 6 * P + 3 := by
  obtain ⟨h1, h2⟩ := fold_bnd hlim hP hPj bits 6
  have h3 : 0 ≤ l % 4 ∧ l % 4 < 4 := by omega
  unfold withVal
  cases b <;> simp only [cond_true, cond_false] <;> omega
theorem p239 : (2 : Int) ^ 239 = 883423532389192164791648750371459257913741948437809479060803100646309888 := by decide
theorem p249 : (2 : Int) ^ 249 = 904625697166532776746648320380374280103671755200316906558262375061821325312 := by decide
/-- What one can say of a draft to the runner. -/
def ringLets (x0 x1 x2 : Option Addr) (n0 c0 n1 c1 n2 c2 : Nat) (l0 l1 l2 : Int) (σ : Nat → Int) : Lets where
  num := σ
  opq := fun i => match i with
    | 0 => .slice x0 n0 c0
    | 1 => .int .u32 l0
    | 2 => .slice x1 n1 c1
    | 3 => .int .u32 l1
    | 4 => .slice x2 n2 c2
    | _ => .int .u32 l2
  ok := fun i => by split <;> rfl
  nb := fun i b => by split <;> (intro h; cases h)
theorem ring_c {U : World} {u v t : Bool} {xv yv zv : Value} {xb yb zb : List Int} {xl yl zl : Int} (hx : DraftOk U xv xb xl) (hy : DraftOk U yv yb yl) (hz : DraftOk U zv zb zl) :
    Calls Try.prog 4 #[.agg #[.bool u, xv, .int .u32 xl], .agg #[.bool v, yv, .int .u32 yl], .agg #[.bool t, zv, .int .u32 zl]] U (Gets (fun _ r => r = .bool true) U) := by
  obtain ⟨xa, xc, rfl, -⟩ := hx.row.len
  obtain ⟨ya, yc, rfl, -⟩ := hy.row.len
  obtain ⟨za, zc, rfl, -⟩ := hz.row.len
  have q0 : ∀ j : Nat, (j : Int) < 240 → (2 : Int) ^ j ≤ 2 ^ 239 := lt_pow rfl
  have q1 : ∀ j : Nat, (j : Int) < 250 → (2 : Int) ^ j ≤ 2 ^ 249 := lt_pow rfl
  have a0 : 0 < (2 : Int) ^ 239 := by rw [p239]; decide
  have a1 : (2 : Int) ^ 239 ≤ pw 16 := by rw [p239]; decide
  have a2 : 6 * (2 : Int) ^ 239 + 3 < P511 := by rw [p239]; unfold P511; decide
  have b0 : 0 < (2 : Int) ^ 249 := by rw [p249]; decide
  have b1' : (2 : Int) ^ 249 ≤ pw 16 := by rw [p249]; decide
  have b2 : 6 * (2 : Int) ^ 249 + 3 < P511 := by rw [p249]; unfold P511; decide
  have ha : -A240 ≤ withVal 240 u xb xl ∧ withVal 240 u xb xl ≤ A240 := with_bnd (by decide) a0 q0 u xb xl
  have hb : -A240 ≤ withVal 240 v yb yl ∧ withVal 240 v yb yl ≤ A240 := with_bnd (by decide) a0 q0 v yb yl
  have hc : -C250 ≤ withVal 250 t zb zl ∧ withVal 250 t zb zl ≤ C250 := with_bnd (by decide) b0 q1 t zb zl
  have key : ∀ (σ : Nat → Int) (c : V1), ok1 c = true → val1 σ (inN 0) = W (withVal 240 u xb xl) → val1 σ (inN 1) = W (withVal 240 v yb yl) → val1 σ c = W (withVal 250 t zb zl) → ∀ rs ts, (∀ r ∈ rs, RowGives Try.prog σ r) → (∀ t ∈ ts, TestOk σ t) →
      runL (ringLets xa ya za xb.length xc yb.length yc zb.length zc xl yl zl σ) ([⟨8, [], .s (b1 true)⟩, ⟨14, [dr 0 u, i1 240], .s (inN 0)⟩, ⟨14, [dr 1 v, i1 240], .s (inN 1)⟩, ⟨14, [dr 2 t, i1 250], .s c⟩] ++ rs) ts (ringRow u v t) 400 = true →
      Calls Try.prog 4 #[.agg #[.bool u, .slice xa xb.length xc, .int .u32 xl], .agg #[.bool v, .slice ya yb.length yc, .int .u32 yl], .agg #[.bool t, .slice za zb.length zc, .int .u32 zl]] U (Gets (fun _ r => r = .bool true) U) := by
    intro σ c hok h0 h1 h2 rs ts hrs hts hrun
    have hE : EnvOk (envL (ringLets xa ya za xb.length xc yb.length yc zb.length zc xl yl zl σ) ([⟨8, [], .s (b1 true)⟩, ⟨14, [dr 0 u, i1 240], .s (inN 0)⟩, ⟨14, [dr 1 v, i1 240], .s (inN 1)⟩, ⟨14, [dr 2 t, i1 250], .s c⟩] ++ rs) ts) U := by
      refine envL_ok (fun r hr => ?_) hts
      simp only [List.mem_append, List.mem_cons, List.not_mem_nil, or_false] at hr
      rcases hr with (rfl | rfl | rfl | rfl) | hr
      · exact rowL_of ⟨rfl, g_works⟩
      · exact with_row 240 (2 ^ 239) (by decide) a0 a1 q0 a2 hx rfl rfl rfl h0
      · exact with_row 240 (2 ^ 239) (by decide) a0 a1 q0 a2 hy rfl rfl rfl h1
      · exact with_row 250 (2 ^ 249) (by decide) b0 b1' q1 b2 hz rfl rfl hok h2
      · exact rowL_of (hrs r hr)
    have hD : ∀ (k : Nat) (b : Bool) (p q : Value) (L : Lets), L.opq (2 * k) = p → L.opq (2 * k + 1) = q → D1 (noLoc L) (dr k b) (.agg #[.bool b, p, q]) := fun k b p q L e1 e2 => by
      subst e1; subst e2
      exact .agg (.cons (.v rfl) (.cons .opq (.cons .opq .nil)))
    obtain ⟨-, h⟩ := call_run hE hrun (xs := [.agg #[.bool u, .slice xa xb.length xc, .int .u32 xl], .agg #[.bool v, .slice ya yb.length yc, .int .u32 yl], .agg #[.bool t, .slice za zb.length zc, .int .u32 zl]])
      (.cons (hD 0 u _ _ _ rfl rfl) (.cons (hD 1 v _ _ _ rfl rfl) (.cons (hD 2 t _ _ _ rfl rfl) .nil)))
    refine Calls.mono h fun e w' he => ?_
    obtain ⟨rfl, hb⟩ := he
    exact ⟨_, rfl, rfl, hb⟩
  by_cases h0 : withVal 250 t zb zl = 0
  · refine key (sigN (ringNums (withVal 240 u xb xl) (withVal 240 v yb yl) 0)) z8 rfl ?_ ?_ ?_ _ _ (ring_rows0 ha hb) ?_ (ring_run0 _ u v t)
    · rw [val_inN]; rfl
    · rw [val_inN]; rfl
    · rw [h0]; exact val_Z _
    · intro q hq
      rcases List.mem_append.1 hq with hq | hq
      · exact same8_ok 0 q hq
      · exact same8_ok 3 q hq
  · obtain ⟨fa, fb, fc, -, -, -, -, -, hd⟩ := ring_fits ha hb hc
    have hn : un (withVal 250 t zb zl) ≠ 0 := by
      intro h
      rcases Int.lt_or_le (withVal 250 t zb zl) 0 with h1 | h1
      · have := un_neg fc h1; unfold fit P511 at fc; unfold P512 at this; omega
      · have := un_pos fc h1; omega
    obtain ⟨j, j1, j2, j3⟩ := low_digit (un_lt (withVal 250 t zb zl)) hn
    have hs : cmpI (withVal 240 u xb xl % withVal 250 t zb zl) 0 = 0 ∨ cmpI (withVal 240 u xb xl % withVal 250 t zb zl) 0 = 1 := by
      have := Int.emod_nonneg (withVal 240 u xb xl) h0
      unfold cmpI
      rw [if_neg (by omega)]
      split
      · exact .inr rfl
      · exact .inl rfl
    refine key (sigN (ringNums (withVal 240 u xb xl) (withVal 240 v yb yl) (withVal 250 t zb zl))) (inN 2) rfl ?_ ?_ ?_ _ _ (ring_rows ha hb hc h0) ?_ (ring_run _ u v t _ hs j j1 (fun i => decide (dig (un (withVal 250 t zb zl)) i = 0)))
    · rw [val_inN]; rfl
    · rw [val_inN]; rfl
    · rw [val_inN]; rfl
    · intro q hq
      simp only [ringTests, List.mem_append] at hq
      rcases hq with (((hq | hq) | hq) | hq) | hq
      · exact same8_ok 0 q hq
      · exact same8_ok 3 q hq
      · exact same8_ok 4 q hq
      · exact same8_ok 6 q hq
      · exact notZero_ok (g := ringNums (withVal 240 u xb xl) (withVal 240 v yb yl) (withVal 250 t zb zl)) j2 j3 q hq
end Go.Proofs.Ytedhjlkidcojhaa
namespace Go.Proofs.Ytedhjlkidcojhaa
open Go Go.Rx Go.RowKit Go.Big
open Go.ChangeShapes Go.WideShapes Go.ChangeAt
attribute [local instance] noAv
set_option maxRecDepth 100000 in
theorem draft_arg {H : Type} {enc : TypeId × Value → H} {U : World} {base : Nat} {sp : Nat → Bool} {held : Bool} {fuel bb : Nat} {v : Value} {x : DataW H × List MemPlace} (hv : Value.okWide Try.prog U .any bb 28 v) (h : DataW.trod enc Try.prog U base sp held fuel 28 v.cells.toList = some x) :
    ∃ (b : Bool) (bv : Value) (bits : List Int) (l : Int), v = .agg #[.bool b, bv, .int .u32 l] ∧ DraftOk U bv bits l := by
  obtain ⟨cs, rfl, hn, ts, h1, -, h2⟩ : ∃ cs, v = .agg cs ∧ cs.size = Try.prog.cellsOf 28 ∧ Row.okWide Try.prog U .any bb 28 cs := by
    simp only [Value.okWide, Try.underlying28] at hv
    exact hv
  rw [types28] at h1
  cases h1
  rw [cells28] at hn
  obtain ⟨lst⟩ := cs
  obtain ⟨c0, c1, c2, rfl⟩ := list3 (by simpa using hn)
  have kC : Cell.okWide Try.prog U .any bb 25 c1 := by
    obtain ⟨u', k1, k2⟩ := h2 1 c1 (by simp)
    have : u' = 25 := Option.some.inj (k1.symm.trans rfl)
    subst this
    exact k2
  obtain ⟨b, bits, l, rfl, rfl, hC⟩ := draft_of (h.trans rfl) kC
  exact ⟨b, c1, bits, l, rfl, hC⟩
end Go.Proofs.Ytedhjlkidcojhaa
