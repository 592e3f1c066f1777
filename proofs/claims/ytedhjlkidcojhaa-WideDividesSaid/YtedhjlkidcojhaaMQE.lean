/-
  The law WideRoots answers true, for every draft and every two octets.
-/
import Derived.Test.YtedhjlkidcojhaaMQD
set_option linter.all false
namespace Go.Proofs.Ytedhjlkidcojhaa
open Go Go.Rx Go.RowKit Go.Big
attribute [local instance] noAv
def eS : Exp := .wrap .i64 (.inp .u64 (8 * 11 + 0))
def eB : Exp := .bin .rem .i64 eS (.lit 1000)
def e25 (k : Nat) : Exp := .wrap .i64 (.bin .rem .u8 (.inp .u64 (8 * k + 0)) (.lit 25))
def eNM : Exp := .bin .add .i64 (e25 12) (e25 13)
def rootIn (u : Bool) : List Row := [⟨8, [], .s (b1 true)⟩, ⟨14, [dr 0 u, i1 250], .s (inN 0)⟩, ⟨27, [dr 0 u], .s (.one (.ex .i64 eS))⟩]
def rootRows (s : Int) : List Row := [⟨20, [inN 0], .tup [inN 1, i1 0]⟩, ⟨12, [inN 1], .tup [inN 2, i1 0]⟩, ⟨23, [i1 1], .s (mag 1)⟩, ⟨15, [inN 2, mag 1], .tup [inN 3, i1 0]⟩, ⟨17, [inN 2, inN 2], .tup [inN 4, i1 0]⟩, ⟨17, [inN 3, inN 3], .tup [inN 5, i1 0]⟩, ⟨17, [inN 0, inN 0], .tup [inN 6, i1 0]⟩, ⟨12, [inN 6], .tup [inN 1, i1 0]⟩, ⟨22, [inN 4, inN 1], .s (i1 s)⟩, ⟨22, [inN 5, inN 1], .s (i1 1)⟩,
  ⟨23, [.one (.ex .i64 eB)], .s (inN 7)⟩, ⟨10, [inN 7, .one (.ex .i64 (e25 12))], .tup [inN 8, i1 0]⟩, ⟨10, [inN 7, .one (.ex .i64 (e25 13))], .tup [inN 9, i1 0]⟩, ⟨17, [inN 8, inN 9], .tup [inN 10, i1 0]⟩, ⟨10, [inN 7, .one (.ex .i64 eNM)], .tup [inN 10, i1 0]⟩]
def rootRow (u : Bool) : Row := ⟨7, [dr 0 u, .one (.ex .u8 (.inp .u64 (8 * 12 + 0))), .one (.ex .u8 (.inp .u64 (8 * 13 + 0)))], .s (b1 true)⟩
theorem roots_run (L : Lets) (u : Bool) (s : Int) (h : s = -1 ∨ s = 0) : runL L (rootIn u ++ rootRows s) (same8 1 ++ same8 10) (rootRow u) 400 = true := by
  rcases h with rfl | rfl <;> cases u <;> kernel_rfl
/-- What one can say of a draft and two octets to the runner. -/
def draftLets (x0 : Option Addr) (n0 c0 : Nat) (l0 : Int) (σ : Nat → Int) : Lets where
  num := σ
  opq := fun i => match i with
    | 0 => .slice x0 n0 c0
    | _ => .int .u32 l0
  ok := fun i => by split <;> rfl
  nb := fun i b => by split <;> (intro h; cases h)
theorem fit_pow {b : Int} (hb : b.natAbs ≤ 999) {n : Nat} (hn : n ≤ 48) : fit (b ^ n) := by
  have h1 : (b ^ n).natAbs = b.natAbs ^ n := Int.natAbs_pow b n
  have h2 : b.natAbs ^ n ≤ 999 ^ 48 := Nat.le_trans (Nat.pow_le_pow_left hb n) (Nat.pow_le_pow_right (by decide) hn)
  have h3 : (999 : Nat) ^ 48 = 953110896879894258606405550171719448317772446474354600085361270785570923990526379594353375623695420636649806671166635377197799890562705127952001 := by kernel_rfl
  rw [h3] at h2
  unfold fit P511; omega
/-- The numbers of the law. -/
def rootNums (a : Int) (r : Nat) (s : Int) (n m : Nat) : Nat → Nat := lst [un a, un (a.natAbs : Int), un (r : Int), un ((r : Int) + 1), un ((r : Int) * r), un (((r : Int) + 1) * ((r : Int) + 1)), un (a * a), un (s.tmod 1000), un ((s.tmod 1000) ^ (n % 25)), un ((s.tmod 1000) ^ (m % 25)), un ((s.tmod 1000) ^ (n % 25 + m % 25)), (s % 18446744073709551616).toNat, n, m]
theorem low_inp {g : Nat → Nat} {k v : Nat} (hg : g k = v) (hv : v < 18446744073709551616) : (Exp.inp .u64 (8 * k + 0)).eval (sigN g) = (v : Int) := by
  have e := inp_sigN g k 0 (by decide)
  rw [hg, (dig_low hv).1] at e
  exact e
theorem eS_val {g : Nat → Nat} {s : Int} (hs : -1000000 ≤ s ∧ s ≤ 1000000) (hg : g 11 = (s % 18446744073709551616).toNat) : eS.eval (sigN g) = s := by
  have e := low_inp (g := g) (k := 11) hg (by omega)
  show IntKind.i64.wrap ((Exp.inp .u64 (8 * 11 + 0)).eval (sigN g)) = s
  rw [e, wrap_i64w _ (by omega)]
  split <;> omega
theorem e25_val {g : Nat → Nat} {k n : Nat} (hn : n < 256) (hg : g k = n) : (e25 k).eval (sigN g) = ((n % 25 : Nat) : Int) := by
  have e := low_inp (g := g) (k := k) hg (by omega)
  show IntKind.i64.wrap (Int.tmod ((Exp.inp .u64 (8 * k + 0)).eval (sigN g)) 25) = _
  rw [e, Int.tmod_eq_emod_of_nonneg (by omega), wrap_i64 _ (by omega)]
  omega
theorem sq_bnd {a : Int} (ha : -C250 ≤ a ∧ a ≤ C250) {r : Nat} (h1 : r * r ≤ a.natAbs) :
    fit a ∧ fit (a.natAbs : Int) ∧ fit (r : Int) ∧ fit ((r : Int) + 1) ∧ fit ((r : Int) * r) ∧ fit (((r : Int) + 1) * ((r : Int) + 1)) ∧ fit (a * a) := by
  have e2 : C250 = 5427754182999196660479889922282245680622030531201901439349574250370927951875 := by unfold C250; decide
  have m1 := bnd_mul ha ha
  rw [e2] at ha m1
  have hr : r ≤ a.natAbs := by
    rcases Nat.eq_zero_or_pos r with h | h
    · omega
    · have := Nat.mul_le_mul_left r h
      omega
  have h3 : (r : Int) * r = ((r * r : Nat) : Int) := (Int.natCast_mul r r).symm
  have h4 : ((r : Int) + 1) * ((r : Int) + 1) = ((r * r : Nat) : Int) + 2 * r + 1 := by rw [← h3]; simp only [Int.mul_add, Int.add_mul]; omega
  rw [h3, h4]
  generalize r * r = q at *
  generalize a * a = aa at *
  unfold fit P511
  omega
theorem abs_sq (a : Int) : a * a = ((a.natAbs * a.natAbs : Nat) : Int) := by
  rw [Int.natCast_mul, Int.natAbs_mul_self']
theorem root_rows {a : Int} (ha : -C250 ≤ a ∧ a ≤ C250) {r : Nat} (h1 : r * r ≤ a.natAbs) (h2 : a.natAbs < (r + 1) * (r + 1)) {s : Int} (hs : -1000000 ≤ s ∧ s ≤ 1000000) {n m : Nat} (hn : n < 256) (hm : m < 256) : ∀ q ∈ rootRows (cmpI ((r : Int) * r) (a.natAbs : Int)), RowGives Try.prog (sigN (rootNums a r s n m)) q := by
  obtain ⟨f0, f1, f2, f3, f4, f5, f6⟩ := sq_bnd ha h1
  have hb : (s.tmod 1000).natAbs ≤ 999 := by
    rcases Int.lt_or_le s 0 with h | h
    · have e : s.tmod 1000 = -((-s) % 1000) := by
        rw [← Int.tmod_eq_emod_of_nonneg (show 0 ≤ -s by omega), Int.neg_tmod, Int.neg_neg]
      omega
    · have e := Int.tmod_eq_emod_of_nonneg (b := 1000) h
      omega
  have hbr : -9223372036854775808 ≤ s.tmod 1000 ∧ s.tmod 1000 ≤ 9223372036854775807 := by omega
  have hn25 : n % 25 ≤ 24 := by omega
  have hm25 : m % 25 ≤ 24 := by omega
  have n0 : rootNums a r s n m 0 = un a := rfl
  have n1 : rootNums a r s n m 1 = un (a.natAbs : Int) := rfl
  have n2 : rootNums a r s n m 2 = un (r : Int) := rfl
  have n3 : rootNums a r s n m 3 = un ((r : Int) + 1) := rfl
  have n4 : rootNums a r s n m 4 = un ((r : Int) * r) := rfl
  have n5 : rootNums a r s n m 5 = un (((r : Int) + 1) * ((r : Int) + 1)) := rfl
  have n6 : rootNums a r s n m 6 = un (a * a) := rfl
  have n7 : rootNums a r s n m 7 = un (s.tmod 1000) := rfl
  have n8 : rootNums a r s n m 8 = un ((s.tmod 1000) ^ (n % 25)) := rfl
  have n9 : rootNums a r s n m 9 = un ((s.tmod 1000) ^ (m % 25)) := rfl
  have n10 : rootNums a r s n m 10 = un ((s.tmod 1000) ^ (n % 25 + m % 25)) := rfl
  have n11 : rootNums a r s n m 11 = (s % 18446744073709551616).toNat := rfl
  have n12 : rootNums a r s n m 12 = n := rfl
  have n13 : rootNums a r s n m 13 = m := rfl
  generalize rootNums a r s n m = g at *
  have vS := eS_val hs n11
  have vN := e25_val hn n12
  have vM := e25_val hm n13
  have vB : eB.eval (sigN g) = s.tmod 1000 := by
    show Int.tmod (eS.eval (sigN g)) 1000 = _
    rw [vS]
  have vNM : eNM.eval (sigN g) = ((n % 25 + m % 25 : Nat) : Int) := by
    show IntKind.i64.wrap ((e25 12).eval (sigN g) + (e25 13).eval (sigN g)) = _
    rw [vN, vM, wrap_i64 _ (by omega)]
    omega
  generalize s.tmod 1000 = b at *
  have pw := fun k (hk : k ≤ 48) => fit_pow hb hk
  have e1 : ∀ k, k ≤ 48 → Gives Try.prog 10 [W b, .int .i64 (k : Nat)] (outV (b ^ k)) := fun k hk => by
    have fb : fit b := by unfold fit P511; omega
    have := f_Pow b fb k (by omega)
    unfold resV at this
    rwa [if_pos (pw k hk)] at this
  have ab0 : 0 ≤ (a.natAbs : Int) := by omega
  have ua : un (a.natAbs : Int) = a.natAbs := by have := un_pos f1 ab0; omega
  have usq : un (a * a) = a.natAbs * a.natAbs := by
    have := un_pos f6 (by rw [abs_sq]; omega)
    rw [abs_sq] at this ⊢
    omega
  intro q hq
  simp only [rootRows, List.mem_cons, List.not_mem_nil, or_false] at hq
  rcases hq with rfl | rfl | rfl | rfl | rfl | rfl | rfl | rfl | rfl | rfl | rfl | rfl | rfl | rfl | rfl
  · refine row_of (abs_out f0 f1) rfl (by simp only [List.map_cons, List.map_nil, val_W g 0 n0]) ?_
    simp only [valV_tup2, val_W g 1 n1, val_i1]; rfl
  · refine row_of (f_Root (a.natAbs : Int) f1 ab0 (r := r) (by rw [ua]; exact h1) (by rw [ua]; exact h2)) rfl (by simp only [List.map_cons, List.map_nil, val_W g 1 n1]) ?_
    simp only [valV_tup2, val_W g 2 n2, val_i1]; rfl
  · refine row_of (f_Of 1 (by decide) (by decide)) rfl (by simp only [List.map_cons, List.map_nil, val_i1]) ?_
    rw [valV_s, val_mag]; exact (W_small 1 (by decide)).symm
  · refine row_of (add_out f2 (fit_small 1 (by decide)) f3) rfl (by simp only [List.map_cons, List.map_nil, val_W g 2 n2, val_mag]; rw [W_small 1 (by decide)]) ?_
    simp only [valV_tup2, val_W g 3 n3, val_i1]; rfl
  · exact row_two (mul_out f2 f2 f4) n2 n2 n4
  · exact row_two (mul_out f3 f3 f5) n3 n3 n5
  · exact row_two (mul_out f0 f0 f6) n0 n0 n6
  · refine row_of (f_Root (a * a) f6 (by rw [abs_sq]; omega) (r := a.natAbs) (by rw [usq]; exact Nat.le_refl _) (by rw [usq]; simp only [Nat.mul_add, Nat.add_mul]; omega)) rfl (by simp only [List.map_cons, List.map_nil, val_W g 6 n6]) ?_
    simp only [valV_tup2, val_W g 1 n1, val_i1]; rfl
  · refine row_of (f_Cmp _ _ f4 f1) rfl (by simp only [List.map_cons, List.map_nil, val_W g 4 n4, val_W g 1 n1]) ?_
    rw [valV_s, val_i1]
  · refine row_of (f_Cmp _ _ f5 f1) rfl (by simp only [List.map_cons, List.map_nil, val_W g 5 n5, val_W g 1 n1]) ?_
    rw [valV_s, val_i1]
    congr 1
    have h4 : ((r : Int) + 1) * ((r : Int) + 1) = (((r + 1) * (r + 1) : Nat) : Int) := by rw [Int.natCast_mul]; rfl
    unfold cmpI
    rw [h4, if_neg (by omega), if_pos (by omega)]
  · refine row_of (f_Of b hbr.1 hbr.2) rfl ?_ (by rw [valV_s, val_W g 7 n7])
    show [Value.int .i64 (eB.eval (sigN g))] = _
    rw [vB]
  · refine row_of (e1 (n % 25) (by omega)) rfl ?_ (by simp only [valV_tup2, val_W g 8 n8, val_i1]; rfl)
    simp only [List.map_cons, List.map_nil, val_W g 7 n7]
    show [W b, Value.int .i64 ((e25 12).eval (sigN g))] = _
    rw [vN]
  · refine row_of (e1 (m % 25) (by omega)) rfl ?_ (by simp only [valV_tup2, val_W g 9 n9, val_i1]; rfl)
    simp only [List.map_cons, List.map_nil, val_W g 7 n7]
    show [W b, Value.int .i64 ((e25 13).eval (sigN g))] = _
    rw [vM]
  · refine row_two (mul_out (pw _ (by omega)) (pw _ (by omega)) (by rw [← Int.pow_add]; exact pw _ (by omega))) n8 n9 (by rw [n10, Int.pow_add])
  · refine row_of (e1 (n % 25 + m % 25) (by omega)) rfl ?_ (by simp only [valV_tup2, val_W g 10 n10, val_i1]; rfl)
    simp only [List.map_cons, List.map_nil, val_W g 7 n7]
    show [W b, Value.int .i64 (eNM.eval (sigN g))] = _
    rw [vNM]
/-- Small, as a row. -/
theorem small_row {U : World} {L : Lets} {k : Nat} {b : Bool} {a : Option Addr} {n c : Nat} {l : Int} (h1 : L.opq (2 * k) = .slice a n c) (h2 : L.opq (2 * k + 1) = .int .u32 l) (hl0 : 0 ≤ l) (hl1 : l < 4294967296) {v : V1} (hok : ok1 v = true) (hv : val1 L.num v = .int .i64 (if b = true then -(l % 1000001) else l % 1000001)) : RowL Try.prog U L ⟨27, [dr k b], .s v⟩ := by
  intro ρ xs w hb hV hx
  obtain ⟨x1, xs1, rfl, k1, hx⟩ := hx.cons_inv
  cases hx
  obtain ⟨ys, rfl, hy⟩ := k1.agg_inv
  obtain ⟨y1, ys1, rfl, j1, hy⟩ := hy.cons_inv
  obtain ⟨y2, ys2, rfl, j2, hy⟩ := hy.cons_inv
  obtain ⟨y3, ys3, rfl, j3, hy⟩ := hy.cons_inv
  cases hy
  have e1 := j1.v_inv
  have e2 : y2 = .slice a n c := by rw [← h1, ← hV]; cases j2; rfl
  have e3 : y3 = .int .u32 l := by rw [← h2, ← hV]; cases j3; rfl
  subst e1; subst e2; subst e3
  refine ⟨enters_of Try.func27 (by kernel_rfl) rfl _ _, (small_c hl0 hl1).mono fun e w' he => ?_⟩
  obtain ⟨r, rfl, rfl, hb'⟩ := he
  exact ⟨_, rfl, by rw [← hv, ← hV]; exact .s (ok1_val hok), hb'⟩
theorem small_bnd (b : Bool) (l : Int) : -1000000 ≤ (if b = true then -(l % 1000001) else l % 1000001) ∧ (if b = true then -(l % 1000001) else l % 1000001) ≤ 1000000 := by
  split <;> omega
theorem roots_c {U : World} {u : Bool} {xv : Value} {xb : List Int} {xl : Int} (hx : DraftOk U xv xb xl) {n m : Nat} (hn : n < 256) (hm : m < 256) :
    Calls Try.prog 7 #[.agg #[.bool u, xv, .int .u32 xl], .int .u8 n, .int .u8 m] U (Gets (fun _ r => r = .bool true) U) := by
  obtain ⟨xa, xc, rfl, -⟩ := hx.row.len
  have q1 : ∀ j : Nat, (j : Int) < 250 → (2 : Int) ^ j ≤ 2 ^ 249 := lt_pow rfl
  have b0 : 0 < (2 : Int) ^ 249 := by rw [p249]; decide
  have b1' : (2 : Int) ^ 249 ≤ pw 16 := by rw [p249]; decide
  have b2 : 6 * (2 : Int) ^ 249 + 3 < P511 := by rw [p249]; unfold P511; decide
  have ha : -C250 ≤ withVal 250 u xb xl ∧ withVal 250 u xb xl ≤ C250 := with_bnd (by decide) b0 q1 u xb xl
  obtain ⟨r, h1, h2⟩ := isq_ex (withVal 250 u xb xl).natAbs
  have hsb := small_bnd u xl
  have hrs := root_rows ha h1 h2 hsb hn hm
  have hc : cmpI ((r : Int) * r) ((withVal 250 u xb xl).natAbs : Int) = -1 ∨ cmpI ((r : Int) * r) ((withVal 250 u xb xl).natAbs : Int) = 0 := by
    have h3 : (r : Int) * r = ((r * r : Nat) : Int) := (Int.natCast_mul r r).symm
    unfold cmpI
    rw [h3]
    split
    · exact .inl rfl
    · rw [if_neg (by omega)]; exact .inr rfl
  have hrun := roots_run (draftLets xa xb.length xc xl (sigN (rootNums (withVal 250 u xb xl) r (if u = true then -(xl % 1000001) else xl % 1000001) n m))) u _ hc
  have n0 : rootNums (withVal 250 u xb xl) r (if u = true then -(xl % 1000001) else xl % 1000001) n m 0 = un (withVal 250 u xb xl) := rfl
  have vS := eS_val hsb (show rootNums (withVal 250 u xb xl) r (if u = true then -(xl % 1000001) else xl % 1000001) n m 11 = ((if u = true then -(xl % 1000001) else xl % 1000001) % 18446744073709551616).toNat from rfl)
  have vn := low_inp (show rootNums (withVal 250 u xb xl) r (if u = true then -(xl % 1000001) else xl % 1000001) n m 12 = n from rfl) (by omega)
  have vm := low_inp (show rootNums (withVal 250 u xb xl) r (if u = true then -(xl % 1000001) else xl % 1000001) n m 13 = m from rfl) (by omega)
  generalize rootNums (withVal 250 u xb xl) r (if u = true then -(xl % 1000001) else xl % 1000001) n m = g at *
  have hE : EnvOk (envL (draftLets xa xb.length xc xl (sigN g)) (rootIn u ++ rootRows (cmpI ((r : Int) * r) ((withVal 250 u xb xl).natAbs : Int))) (same8 1 ++ same8 10)) U := by
    refine envL_ok (fun q hq => ?_) (fun q hq => ?_)
    · simp only [rootIn, List.mem_append, List.mem_cons, List.not_mem_nil, or_false] at hq
      rcases hq with (rfl | rfl | rfl) | hq
      · exact rowL_of ⟨rfl, g_works⟩
      · refine with_row 250 (2 ^ 249) (by decide) b0 b1' q1 b2 hx rfl rfl rfl ?_
        exact val_W g 0 n0
      · refine small_row rfl rfl hx.l0 hx.l1 rfl ?_
        show Value.int .i64 (eS.eval (sigN g)) = _
        rw [vS]
      · exact rowL_of (hrs q hq)
    · rcases List.mem_append.1 hq with hq | hq
      · exact same8_ok 1 q hq
      · exact same8_ok 10 q hq
  have hD1 : D1 (noLoc (draftLets xa xb.length xc xl (sigN g))) (.one (.ex .u8 (.inp .u64 (8 * 12 + 0)))) (.int .u8 n) := by
    have : D1 (noLoc (draftLets xa xb.length xc xl (sigN g))) (.one (.ex .u8 (.inp .u64 (8 * 12 + 0)))) (.int .u8 ((Exp.inp .u64 (8 * 12 + 0)).eval (sigN g))) := .one .ex
    rwa [vn] at this
  have hD2 : D1 (noLoc (draftLets xa xb.length xc xl (sigN g))) (.one (.ex .u8 (.inp .u64 (8 * 13 + 0)))) (.int .u8 m) := by
    have : D1 (noLoc (draftLets xa xb.length xc xl (sigN g))) (.one (.ex .u8 (.inp .u64 (8 * 13 + 0)))) (.int .u8 ((Exp.inp .u64 (8 * 13 + 0)).eval (sigN g))) := .one .ex
    rwa [vm] at this
  obtain ⟨-, h⟩ := call_run hE hrun (xs := [.agg #[.bool u, .slice xa xb.length xc, .int .u32 xl], .int .u8 n, .int .u8 m])
    (.cons (.agg (.cons (.v rfl) (.cons (.opq (i := 0)) (.cons (.opq (i := 1)) .nil)))) (.cons hD1 (.cons hD2 .nil)))
  refine Calls.mono h fun e w' he => ?_
  obtain ⟨rfl, hb⟩ := he
  exact ⟨_, rfl, rfl, hb⟩
end Go.Proofs.Ytedhjlkidcojhaa
