/-
  The runner over a whole call in one world: rows whose arguments hold cells of which nothing is known.
  The law WideRing, by the runner: the whole call, three drafts in.
  The law WideRing: the rows that its piece takes.
-/
import Derived.Test.YtedhjlkidcojhaaMG
import Derived.Test.YtedhjlkidcojhaaMX
set_option linter.all false
namespace Go.Rx
open Go Go.RowKit
/-- What a row says in the worlds behind W. -/
def RowL (P : Program) (W : World) (L : Lets) (r : Row) : Prop :=
  ∀ (ρ : Loc') (xs : List Value) (w : World), Below W.heap.size W w → ρ.val = L → All2 (D1 ρ) r.l xs → (callFunc r.f xs.toArray).run P w = .ok (.enter r.f xs.toArray) w ∧
    Calls P r.f xs.toArray w fun e w' => ∃ x, e = .returned x ∧ DV ρ r.v x ∧ Below w.heap.size w w'
theorem sumOf_mem : ∀ {rs : List Row} {f : FuncId} {l : List V1} {v : V}, sumOf rs f l = some v → ∃ r, r ∈ rs ∧ r.f = f ∧ r.l = l ∧ r.v = v
  | [], _, _, _, h => by cases h
  | r :: rs, f, l, v, h => by
    simp only [sumOf] at h
    cases hc : Nat.beq r.f f && eqL eq1 r.l l with
    | true =>
      rw [hc] at h
      simp only [cond_true, Option.some.injEq] at h
      simp only [Bool.and_eq_true] at hc
      exact ⟨r, by simp, beq_t hc.1, eqL_eq eq1_eq hc.2, h⟩
    | false =>
      rw [hc] at h
      obtain ⟨q, h1, h2⟩ := sumOf_mem (rs := rs) h
      exact ⟨q, by simp [h1], h2⟩
theorem rowL_of {P : Program} {W : World} {L : Lets} {r : Row} (h : RowGives P L.num r) : RowL P W L r := by
  intro ρ xs w _ hV hx
  obtain ⟨h1, h2⟩ := h
  simp only [Bool.and_eq_true] at h1
  have e := All2.inv_ok (f := val1 ρ.val.num) (fun _ _ h hx => ok1_inv h hx) h1.1 hx
  subst e
  rw [hV]
  obtain ⟨k1, k2⟩ := h2 w
  refine ⟨k1, k2.mono fun e w' he => ?_⟩
  obtain ⟨rfl, hb⟩ := he
  exact ⟨_, rfl, by rw [← hV]; exact okV_val h1.2, hb⟩
/-- A whole call in a world, by one run. -/
theorem call_run {E : Env} {w : World} (hE : EnvOk E w) {fuel : Nat} {r : Row} (h : (okV r.v && isRun r (funX E fuel r.f r.l ⟨.e, 0, 0⟩)) = true) {xs : List Value} (hx : All2 (D1 (noLoc E.val)) r.l xs) :
    (callFunc r.f xs.toArray).run E.P w = .ok (.enter r.f xs.toArray) w ∧ Calls E.P r.f xs.toArray w fun e w' => e = .returned (valV E.val.num r.v) ∧ Below w.heap.size w w' := by
  simp only [Bool.and_eq_true] at h
  obtain ⟨h2, h3⟩ := h
  unfold isRun at h3
  split at h3
  · rename_i v m hm
    have := eqV_eq h3
    subst this
    have hR := run_ok hE (code_ok hE fuel)
    obtain ⟨k1, k2⟩ := hR.calls _ _ _ _ _ hm (noLoc E.val) xs w rfl hx (MemRel.empty w _)
    refine ⟨k1, k2.mono fun e w' he => ?_⟩
    obtain ⟨x, ρ', rfl, hx, _, h5, h6⟩ := he
    have := okV_inv h2 h5
    rw [hx.val] at this
    exact ⟨by rw [this]; rfl, h6.below⟩
  · cases h3
end Go.Rx
namespace Go.Proofs.Ytedhjlkidcojhaa
open Go Go.Rx Go.RowKit
noncomputable def envL (L : Lets) (rs : List Row) (ts : List Test) : Env :=
  ⟨Try.prog, extS, sumOf rs, L, fun op a b => match litTest op a b with | some r => some r | none => testOf ts op a b⟩
theorem envL_ok {L : Lets} {rs : List Row} {ts : List Test} {W : World} (hr : ∀ r ∈ rs, RowL Try.prog W L r) (ht : ∀ t ∈ ts, TestOk L.num t) : EnvOk (envL L rs ts) W where
  mixed := (env0 W).mixed
  name := (env0 W).name
  ext := fun f l v h ρ xs _ hx => extS_ok f l v h ρ xs hx
  sum := fun f l v h ρ xs w hb hV hx => by
    obtain ⟨r, h1, rfl, rfl, rfl⟩ := sumOf_mem h
    exact hr r h1 ρ xs w hb hV hx
  test := fun op a b r h k => by
    simp only [envL] at h ⊢
    split at h
    · rename_i q hq
      simp only [Option.some.injEq] at h; subst h
      exact litTest_ok hq L.num k
    · exact testOf_ok ht h k
end Go.Proofs.Ytedhjlkidcojhaa
namespace Go.Proofs.Ytedhjlkidcojhaa
open Go Go.Rx Go.RowKit
/-- A draft, of which the sign alone is told. -/
def dr (k : Nat) (b : Bool) : V1 := .agg [.v (.bool b), .opq (2 * k), .opq (2 * k + 1)]
def same8 (k : Nat) : List Test := (List.range 8).map fun i => ⟨.eql, .inp .u64 (8 * k + i), .inp .u64 (8 * k + i), true⟩
theorem same8_ok {σ : Nat → Int} (k : Nat) : ∀ t ∈ same8 k, TestOk σ t := by
  intro t ht
  simp only [same8, List.mem_map] at ht
  obtain ⟨i, -, rfl⟩ := ht
  intro kk
  simp [intBin]
/-- Number 2 is not zero: its word j is not, and the lower ones are. -/
def notZero (j : Nat) (x : Nat → Bool) : List Test := (List.range 8).map fun i => ⟨.eql, .inp .u64 (16 + i), .lit 0, if i < j then true else if i = j then false else x i⟩
def ringRows0 : List Row := [⟨15, [inN 0, inN 1], .tup [inN 3, i1 0]⟩, ⟨15, [inN 1, inN 0], .tup [inN 3, i1 0]⟩, ⟨16, [inN 3, inN 1], .tup [inN 0, i1 0]⟩, ⟨17, [inN 0, z8], .tup [z8, i1 0]⟩, ⟨17, [z8, inN 0], .tup [z8, i1 0]⟩, ⟨17, [inN 1, z8], .tup [z8, i1 0]⟩, ⟨15, [z8, z8], .tup [z8, i1 0]⟩, ⟨17, [inN 3, z8], .tup [z8, i1 0]⟩, ⟨18, [z8, z8], .tup [z8, z8, i1 7]⟩]
def ringRows (s : Int) : List Row := [⟨15, [inN 0, inN 1], .tup [inN 3, i1 0]⟩, ⟨15, [inN 1, inN 0], .tup [inN 3, i1 0]⟩, ⟨16, [inN 3, inN 1], .tup [inN 0, i1 0]⟩, ⟨17, [inN 0, inN 2], .tup [inN 4, i1 0]⟩, ⟨17, [inN 2, inN 0], .tup [inN 4, i1 0]⟩, ⟨17, [inN 1, inN 2], .tup [inN 5, i1 0]⟩, ⟨15, [inN 4, inN 5], .tup [inN 6, i1 0]⟩, ⟨17, [inN 3, inN 2], .tup [inN 6, i1 0]⟩, ⟨18, [inN 4, inN 2], .tup [inN 0, z8, i1 0]⟩, ⟨18, [inN 0, inN 2], .tup [inN 7, inN 8, i1 0]⟩, ⟨17, [inN 7, inN 2], .tup [inN 9, i1 0]⟩, ⟨15, [inN 9, inN 8], .tup [inN 0, i1 0]⟩, ⟨20, [inN 2], .tup [inN 10, i1 0]⟩, ⟨21, [inN 8], .s (i1 s)⟩, ⟨22, [inN 8, inN 10], .s (i1 (-1))⟩]
def inRows0 (u v t : Bool) : List Row := [⟨8, [], .s (b1 true)⟩, ⟨14, [dr 0 u, i1 240], .s (inN 0)⟩, ⟨14, [dr 1 v, i1 240], .s (inN 1)⟩, ⟨14, [dr 2 t, i1 250], .s (z8)⟩]
def inRows (u v t : Bool) : List Row := [⟨8, [], .s (b1 true)⟩, ⟨14, [dr 0 u, i1 240], .s (inN 0)⟩, ⟨14, [dr 1 v, i1 240], .s (inN 1)⟩, ⟨14, [dr 2 t, i1 250], .s (inN 2)⟩]
def ringTests (j : Nat) (x : Nat → Bool) : List Test := same8 0 ++ same8 3 ++ same8 4 ++ same8 6 ++ notZero j x
def ringRow (u v t : Bool) : Row := ⟨4, [dr 0 u, dr 1 v, dr 2 t], .s (b1 true)⟩
noncomputable def runL (L : Lets) (rs : List Row) (ts : List Test) (r : Row) (fuel : Nat) : Bool := okV r.v && isRun r (funX (envL L rs ts) fuel r.f r.l ⟨.e, 0, 0⟩)
theorem ring_run0 (L : Lets) (u v t : Bool) : runL L (inRows0 u v t ++ ringRows0) (same8 0 ++ same8 3) (ringRow u v t) 400 = true := by
  cases u <;> cases v <;> cases t <;> kernel_rfl
theorem ring_run_0 (L : Lets) (u v t : Bool) (s : Int) (hs : s = 0 ∨ s = 1) (x : Nat → Bool) : runL L (inRows u v t ++ ringRows s) (ringTests 0 x) (ringRow u v t) 400 = true := by
  rcases hs with rfl | rfl <;> cases u <;> cases v <;> cases t <;> kernel_rfl
theorem ring_run_1 (L : Lets) (u v t : Bool) (s : Int) (hs : s = 0 ∨ s = 1) (x : Nat → Bool) : runL L (inRows u v t ++ ringRows s) (ringTests 1 x) (ringRow u v t) 400 = true := by
  rcases hs with rfl | rfl <;> cases u <;> cases v <;> cases t <;> kernel_rfl
theorem ring_run_2 (L : Lets) (u v t : Bool) (s : Int) (hs : s = 0 ∨ s = 1) (x : Nat → Bool) : runL L (inRows u v t ++ ringRows s) (ringTests 2 x) (ringRow u v t) 400 = true := by
  rcases hs with rfl | rfl <;> cases u <;> cases v <;> cases t <;> kernel_rfl
theorem ring_run_3 (L : Lets) (u v t : Bool) (s : Int) (hs : s = 0 ∨ s = 1) (x : Nat → Bool) : runL L (inRows u v t ++ ringRows s) (ringTests 3 x) (ringRow u v t) 400 = true := by
  rcases hs with rfl | rfl <;> cases u <;> cases v <;> cases t <;> kernel_rfl
theorem ring_run_4 (L : Lets) (u v t : Bool) (s : Int) (hs : s = 0 ∨ s = 1) (x : Nat → Bool) : runL L (inRows u v t ++ ringRows s) (ringTests 4 x) (ringRow u v t) 400 = true := by
  rcases hs with rfl | rfl <;> cases u <;> cases v <;> cases t <;> kernel_rfl
theorem ring_run_5 (L : Lets) (u v t : Bool) (s : Int) (hs : s = 0 ∨ s = 1) (x : Nat → Bool) : runL L (inRows u v t ++ ringRows s) (ringTests 5 x) (ringRow u v t) 400 = true := by
  rcases hs with rfl | rfl <;> cases u <;> cases v <;> cases t <;> kernel_rfl
theorem ring_run_6 (L : Lets) (u v t : Bool) (s : Int) (hs : s = 0 ∨ s = 1) (x : Nat → Bool) : runL L (inRows u v t ++ ringRows s) (ringTests 6 x) (ringRow u v t) 400 = true := by
  rcases hs with rfl | rfl <;> cases u <;> cases v <;> cases t <;> kernel_rfl
theorem ring_run_7 (L : Lets) (u v t : Bool) (s : Int) (hs : s = 0 ∨ s = 1) (x : Nat → Bool) : runL L (inRows u v t ++ ringRows s) (ringTests 7 x) (ringRow u v t) 400 = true := by
  rcases hs with rfl | rfl <;> cases u <;> cases v <;> cases t <;> kernel_rfl
theorem ring_run (L : Lets) (u v t : Bool) (s : Int) (hs : s = 0 ∨ s = 1) (j : Nat) (hj : j < 8) (x : Nat → Bool) : runL L (inRows u v t ++ ringRows s) (ringTests j x) (ringRow u v t) 400 = true := by
  match j, hj with
  | 0, _ => exact ring_run_0 L u v t s hs x
  | 1, _ => exact ring_run_1 L u v t s hs x
  | 2, _ => exact ring_run_2 L u v t s hs x
  | 3, _ => exact ring_run_3 L u v t s hs x
  | 4, _ => exact ring_run_4 L u v t s hs x
  | 5, _ => exact ring_run_5 L u v t s hs x
  | 6, _ => exact ring_run_6 L u v t s hs x
  | 7, _ => exact ring_run_7 L u v t s hs x
end Go.Proofs.Ytedhjlkidcojhaa
namespace Go.Proofs.Ytedhjlkidcojhaa
open Go Go.Rx Go.RowKit Go.Big
theorem row_two {f : FuncId} {x y z : Int} {g : Nat → Nat} {i j k : Nat} (h : Gives Try.prog f [W x, W y] (outV z)) (hi : g i = un x) (hj : g j = un y) (hk : g k = un z) : RowGives Try.prog (sigN g) ⟨f, [inN i, inN j], .tup [inN k, i1 0]⟩ := by
  refine ⟨rfl, ?_⟩
  simp only [List.map_cons, List.map_nil, val_inN, valV_tup2, val_i1, hi, hj, hk]
  exact h
theorem row_of {f : FuncId} {l : List V1} {v : V} {g : Nat → Nat} {xs : List Value} {x : Value} (h : Gives Try.prog f xs x) (ho : (l.all ok1 && okV v) = true) (hl : l.map (val1 (sigN g)) = xs) (hv : valV (sigN g) v = x) : RowGives Try.prog (sigN g) ⟨f, l, v⟩ := by
  refine ⟨ho, ?_⟩
  show Gives Try.prog f (l.map (val1 (sigN g))) (valV (sigN g) v)
  rw [hl, hv]; exact h
theorem val_W (g : Nat → Nat) (k : Nat) {x : Int} (h : g k = un x) : val1 (sigN g) (inN k) = W x := by rw [val_inN, h]; rfl
theorem val_Z (g : Nat → Nat) : val1 (sigN g) z8 = W 0 := by
  rw [val_z8]
  show magV 0 = magV (un 0)
  rw [show un 0 = 0 by unfold un P512; rfl]
theorem add_out {x y : Int} (hx : fit x) (hy : fit y) (h : fit (x + y)) : Gives Try.prog 15 [W x, W y] (outV (x + y)) := by
  have := f_Add x y hx hy; unfold resV at this; rwa [if_pos h] at this
theorem sub_out {x y : Int} (hx : fit x) (hy : fit y) (h : fit (x - y)) : Gives Try.prog 16 [W x, W y] (outV (x - y)) := by
  have := f_Sub x y hx hy; unfold resV at this; rwa [if_pos h] at this
theorem mul_out {x y : Int} (hx : fit x) (hy : fit y) (h : fit (x * y)) : Gives Try.prog 17 [W x, W y] (outV (x * y)) := by
  have := f_MulG x y hx hy; unfold resV at this; rwa [if_pos h] at this
theorem abs_out {x : Int} (hx : fit x) (h : fit (x.natAbs : Int)) : Gives Try.prog 20 [W x] (outV (x.natAbs : Int)) := by
  have := f_Abs x hx; unfold resV at this; rwa [if_pos h] at this
theorem div_out {x y : Int} (hx : fit x) (hy : fit y) (h0 : y ≠ 0) (h : fit (x / y)) : Gives Try.prog 18 [W x, W y] (.tuple #[W (x / y), W (x % y), .int .i64 0]) := by
  have := f_DivG x y hx hy; rwa [if_neg h0, if_pos h] at this
theorem least {p : Nat → Prop} [DecidablePred p] : ∀ n, (∃ i, i < n ∧ p i) → ∃ j, j < n ∧ p j ∧ ∀ i, i < j → ¬ p i
  | 0, ⟨i, h, _⟩ => absurd h (Nat.not_lt_zero _)
  | n + 1, ⟨i, h, hp⟩ => by
    by_cases hq : ∃ i, i < n ∧ p i
    · obtain ⟨j, h1, h2, h3⟩ := least n hq
      exact ⟨j, by omega, h2, h3⟩
    · refine ⟨i, h, hp, fun k hk hpk => hq ⟨k, by omega, hpk⟩⟩
/-- A number that is not zero has a lowest word that is not. -/
theorem low_digit {m : Nat} (hm : m < 13407807929942597099574024998205846127479365820592393377723561443721764030073546976801874298166903427690031858186486050853753882811946569946433649006084096) (h0 : m ≠ 0) : ∃ j, j < 8 ∧ dig m j ≠ 0 ∧ ∀ i, i < j → dig m i = 0 := by
  have h : ∃ i, i < 8 ∧ dig m i ≠ 0 := by
    refine Classical.byContradiction fun hn => h0 ?_
    have hz : ∀ i, i < 8 → dig m i = 0 := fun i hi => Classical.byContradiction fun h => hn ⟨i, hi, h⟩
    have hv := digs_val hm
    have := (wval_zero_iff (digs_good m)).1 (fun x hx => by
      simp only [digs, List.mem_cons, List.not_mem_nil, or_false] at hx
      rcases hx with rfl | rfl | rfl | rfl | rfl | rfl | rfl | rfl
      · rw [hz 0 (by decide)]; rfl
      · rw [hz 1 (by decide)]; rfl
      · rw [hz 2 (by decide)]; rfl
      · rw [hz 3 (by decide)]; rfl
      · rw [hz 4 (by decide)]; rfl
      · rw [hz 5 (by decide)]; rfl
      · rw [hz 6 (by decide)]; rfl
      · rw [hz 7 (by decide)]; rfl)
    omega
  obtain ⟨j, h1, h2, h3⟩ := least 8 h
  exact ⟨j, h1, h2, fun i hi => Classical.byContradiction fun h => h3 i hi h⟩
theorem notZero_ok {g : Nat → Nat} {j : Nat} (hj : dig (g 2) j ≠ 0) (hl : ∀ i, i < j → dig (g 2) i = 0) : ∀ t ∈ notZero j (fun i => decide (dig (g 2) i = 0)), TestOk (sigN g) t := by
  intro t ht
  simp only [notZero, List.mem_map, List.mem_range] at ht
  obtain ⟨i, hi, rfl⟩ := ht
  intro k
  have e := inp_sigN g 2 i hi
  rw [show 8 * 2 = 16 from rfl] at e
  simp only [intBin, e]
  congr 2
  show ((dig (g 2) i : Int) == 0) = _
  rw [Bool.eq_iff_iff, beq_iff_eq]
  by_cases h1 : i < j
  · rw [if_pos h1, hl i h1]; simp
  · rw [if_neg h1]
    by_cases h2 : i = j
    · subst h2
      rw [if_pos rfl]
      constructor
      · intro h; exact absurd (by omega) hj
      · intro h; cases h
    · rw [if_neg h2, decide_eq_true_eq]; omega
theorem bnd_mul {x y A C : Int} (hx : -A ≤ x ∧ x ≤ A) (hy : -C ≤ y ∧ y ≤ C) : -(A * C) ≤ x * y ∧ x * y ≤ A * C := by
  have h1 := Int.mul_nonneg (show 0 ≤ A - x by omega) (show 0 ≤ C + y by omega)
  have h2 := Int.mul_nonneg (show 0 ≤ A + x by omega) (show 0 ≤ C - y by omega)
  have h3 := Int.mul_nonneg (show 0 ≤ A - x by omega) (show 0 ≤ C - y by omega)
  have h4 := Int.mul_nonneg (show 0 ≤ A + x by omega) (show 0 ≤ C + y by omega)
  simp only [Int.sub_mul, Int.mul_sub, Int.add_mul, Int.mul_add] at h1 h2 h3 h4
  omega
theorem div_bnd {x y : Int} (h0 : y ≠ 0) : -(x.natAbs + 1 : Int) ≤ x / y ∧ x / y ≤ x.natAbs + 1 := by
  obtain ⟨o1, -⟩ := over_ok x y h0
  have h1 : x.natAbs / y.natAbs ≤ x.natAbs := Nat.div_le_self _ _
  have h2 : overQ x.natAbs y.natAbs (decide (x < 0)) ≤ x.natAbs + 1 := by unfold overQ; split <;> omega
  rw [← o1]
  unfold sg
  split <;> omega
/-- 6 2^239 + 3, 6 2^249 + 3. -/
def A240 : Int := 6 * 2 ^ 239 + 3
def C250 : Int := 6 * 2 ^ 249 + 3
theorem ring_fits {a b c : Int} (ha : -A240 ≤ a ∧ a ≤ A240) (hb : -A240 ≤ b ∧ b ≤ A240) (hc : -C250 ≤ c ∧ c ≤ C250) :
    fit a ∧ fit b ∧ fit c ∧ fit (a + b) ∧ fit (a * c) ∧ fit (b * c) ∧ fit ((a + b) * c) ∧ fit (c.natAbs : Int) ∧ (c ≠ 0 → fit (a / c) ∧ fit (a % c) ∧ fit (a / c * c)) := by
  have m1 := bnd_mul ha hc
  have m2 := bnd_mul hb hc
  have m3 := bnd_mul (A := 2 * A240) (show -(2 * A240) ≤ a + b ∧ a + b ≤ 2 * A240 by omega) hc
  have e1 : A240 = 5300541194335152988749892502228755547482451690626856874364818603877859331 := by unfold A240; decide
  have e2 : C250 = 5427754182999196660479889922282245680622030531201901439349574250370927951875 := by unfold C250; decide
  refine ⟨?_, ?_, ?_, ?_, ?_, ?_, ?_, ?_, fun h0 => ⟨?_, ?_, ?_⟩⟩
  all_goals unfold fit P511
  all_goals rw [e1] at ha hb
  all_goals rw [e2] at hc
  all_goals rw [e1, e2] at m1 m2 m3
  · omega
  · omega
  · omega
  · omega
  · omega
  · omega
  · omega
  · omega
  · have := div_bnd (x := a) h0
    omega
  · have b1 := Int.emod_nonneg a h0
    have b2 := Int.emod_lt a h0
    omega
  · have b1 := Int.emod_nonneg a h0
    have b2 := Int.emod_lt a h0
    have b3 := Int.mul_ediv_add_emod a c
    rw [Int.mul_comm] at b3
    omega
/-- The numbers of the piece. -/
def ringNums (a b c : Int) : Nat → Nat := lst [un a, un b, un c, un (a + b), un (a * c), un (b * c), un ((a + b) * c), un (a / c), un (a % c), un (a / c * c), un (c.natAbs : Int)]
theorem ring_rows {a b c : Int} (ha : -A240 ≤ a ∧ a ≤ A240) (hb : -A240 ≤ b ∧ b ≤ A240) (hc : -C250 ≤ c ∧ c ≤ C250) (h0 : c ≠ 0) : ∀ r ∈ ringRows (cmpI (a % c) 0), RowGives Try.prog (sigN (ringNums a b c)) r := by
  obtain ⟨fa, fb, fc, fs, fp, fr, fall, fabs, hd⟩ := ring_fits ha hb hc
  obtain ⟨fo, frest, foc⟩ := hd h0
  have b1 := Int.emod_nonneg a h0
  have b2 := Int.emod_lt a h0
  have d1 : a * c / c = a := Int.mul_ediv_cancel a h0
  have d2 : a * c % c = 0 := Int.mul_emod_left a c
  have d3 : a / c * c + a % c = a := by
    have := Int.mul_ediv_add_emod a c
    rw [Int.mul_comm] at this
    exact this
  have n0 : ringNums a b c 0 = un a := rfl
  have n1 : ringNums a b c 1 = un b := rfl
  have n2 : ringNums a b c 2 = un c := rfl
  have n3 : ringNums a b c 3 = un (a + b) := rfl
  have n4 : ringNums a b c 4 = un (a * c) := rfl
  have n5 : ringNums a b c 5 = un (b * c) := rfl
  have n6 : ringNums a b c 6 = un ((a + b) * c) := rfl
  have n7 : ringNums a b c 7 = un (a / c) := rfl
  have n8 : ringNums a b c 8 = un (a % c) := rfl
  have n9 : ringNums a b c 9 = un (a / c * c) := rfl
  have n10 : ringNums a b c 10 = un (c.natAbs : Int) := rfl
  generalize ringNums a b c = g at *
  intro r hr
  simp only [ringRows, List.mem_cons, List.not_mem_nil, or_false] at hr
  rcases hr with rfl | rfl | rfl | rfl | rfl | rfl | rfl | rfl | rfl | rfl | rfl | rfl | rfl | rfl | rfl
  · exact row_two (add_out fa fb fs) n0 n1 n3
  · exact row_two (add_out fb fa (by rw [Int.add_comm]; exact fs)) n1 n0 (by rw [n3, Int.add_comm])
  · exact row_two (sub_out fs fb (by rw [Int.add_sub_cancel]; exact fa)) n3 n1 (by rw [n0, Int.add_sub_cancel])
  · exact row_two (mul_out fa fc fp) n0 n2 n4
  · exact row_two (mul_out fc fa (by rw [Int.mul_comm]; exact fp)) n2 n0 (by rw [n4, Int.mul_comm])
  · exact row_two (mul_out fb fc fr) n1 n2 n5
  · exact row_two (add_out fp fr (by rw [← Int.add_mul]; exact fall)) n4 n5 (by rw [n6, Int.add_mul])
  · exact row_two (mul_out fs fc fall) n3 n2 n6
  · have h := div_out fp fc h0 (by rw [d1]; exact fa)
    rw [d1, d2] at h
    refine row_of h rfl (by simp only [List.map_cons, List.map_nil, val_W g 4 n4, val_W g 2 n2]) ?_
    simp only [valV, List.map_cons, List.map_nil, val_W g 0 n0, val_Z, val_i1]
  · have h := div_out fa fc h0 fo
    refine row_of h rfl (by simp only [List.map_cons, List.map_nil, val_W g 0 n0, val_W g 2 n2]) ?_
    simp only [valV, List.map_cons, List.map_nil, val_W g 7 n7, val_W g 8 n8, val_i1]
  · exact row_two (mul_out fo fc foc) n7 n2 n9
  · exact row_two (add_out foc frest (by rw [d3]; exact fa)) n9 n8 (by rw [n0, d3])
  · refine row_of (abs_out fc fabs) rfl (by simp only [List.map_cons, List.map_nil, val_W g 2 n2]) ?_
    simp only [valV_tup2, val_W g 10 n10, val_i1]
    rfl
  · refine row_of (f_Sign _ frest) rfl (by simp only [List.map_cons, List.map_nil, val_W g 8 n8]) ?_
    rw [valV_s, val_i1]
  · refine row_of (f_Cmp _ _ frest fabs) rfl (by simp only [List.map_cons, List.map_nil, val_W g 8 n8, val_W g 10 n10]) ?_
    rw [valV_s, val_i1]
    congr 1
    unfold cmpI
    rw [if_pos b2]
theorem ring_rows0 {a b : Int} (ha : -A240 ≤ a ∧ a ≤ A240) (hb : -A240 ≤ b ∧ b ≤ A240) : ∀ r ∈ ringRows0, RowGives Try.prog (sigN (ringNums a b 0)) r := by
  obtain ⟨fa, fb, fc, fs, fp, fr, fall, fabs, hd⟩ := ring_fits (c := 0) ha hb (by unfold C250; decide)
  have n0 : ringNums a b 0 0 = un a := rfl
  have n1 : ringNums a b 0 1 = un b := rfl
  have n3 : ringNums a b 0 3 = un (a + b) := rfl
  generalize ringNums a b 0 = g at *
  intro r hr
  simp only [ringRows0, List.mem_cons, List.not_mem_nil, or_false] at hr
  have mz : ∀ x : Int, fit x → Gives Try.prog 17 [W x, W 0] (outV 0) := fun x hx => by
    have := mul_out hx fc (by rw [Int.mul_zero]; exact fc)
    rwa [Int.mul_zero] at this
  rcases hr with rfl | rfl | rfl | rfl | rfl | rfl | rfl | rfl | rfl
  · exact row_two (add_out fa fb fs) n0 n1 n3
  · exact row_two (add_out fb fa (by rw [Int.add_comm]; exact fs)) n1 n0 (by rw [n3, Int.add_comm])
  · exact row_two (sub_out fs fb (by rw [Int.add_sub_cancel]; exact fa)) n3 n1 (by rw [n0, Int.add_sub_cancel])
  · refine row_of (mz a fa) rfl (by simp only [List.map_cons, List.map_nil, val_W g 0 n0, val_Z]) ?_
    simp only [valV_tup2, val_Z, val_i1]
    rfl
  · have h := mul_out fc fa (by rw [Int.zero_mul]; exact fc)
    rw [Int.zero_mul] at h
    refine row_of h rfl (by simp only [List.map_cons, List.map_nil, val_W g 0 n0, val_Z]) ?_
    simp only [valV_tup2, val_Z, val_i1]
    rfl
  · refine row_of (mz b fb) rfl (by simp only [List.map_cons, List.map_nil, val_W g 1 n1, val_Z]) ?_
    simp only [valV_tup2, val_Z, val_i1]
    rfl
  · have h := add_out fc fc (by rw [Int.add_zero]; exact fc)
    rw [Int.add_zero] at h
    refine row_of h rfl (by simp only [List.map_cons, List.map_nil, val_Z]) ?_
    simp only [valV_tup2, val_Z, val_i1]
    rfl
  · refine row_of (mz _ fs) rfl (by simp only [List.map_cons, List.map_nil, val_W g 3 n3, val_Z]) ?_
    simp only [valV_tup2, val_Z, val_i1]
    rfl
  · have h := f_DivG 0 0 fc fc
    rw [if_pos rfl] at h
    refine row_of h rfl (by simp only [List.map_cons, List.map_nil, val_Z]) ?_
    simp only [valV, List.map_cons, List.map_nil, val_Z, val_i1]
end Go.Proofs.Ytedhjlkidcojhaa
