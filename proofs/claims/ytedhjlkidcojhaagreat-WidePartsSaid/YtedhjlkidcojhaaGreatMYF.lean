/-
  The reference's Divisor: the greatest common divisor of two numbers of any length.
-/
import Derived.Test.YtedhjlkidcojhaaGreatMYE
set_option linter.all false
namespace Go.Proofs.YtedhjlkidcojhaaGreat
open Go Go.RowKit Go.Big
attribute [local instance] noAv
theorem heapT3' (w : World) (o1 o2 o3 : Obj) : (((w.alloc o1).alloc o2).alloc o3).heap[w.heap.size]? = some o1 ∧ (((w.alloc o1).alloc o2).alloc o3).heap[w.heap.size + 1]? = some o2 ∧ (((w.alloc o1).alloc o2).alloc o3).heap[w.heap.size + 1 + 1]? = some o3 := by
  obtain ⟨h1, h2, h3, _⟩ := heap4 w o1 o2 o3 o3
  have e : (((w.alloc o1).alloc o2).alloc o3).heap.size = w.heap.size + 1 + 1 + 1 := by simp
  have B := (Below.refl (w.heap.size + 1 + 1 + 1) (((w.alloc o1).alloc o2).alloc o3)).alloc (by rw [e]; exact Nat.le_refl _) o3
  exact ⟨(B.block _ (by omega)).symm.trans h1, (B.block _ (by omega)).symm.trans h2, (B.block _ (by omega)).symm.trans h3⟩
def numAt (w : World) (b o j : Nat) : Int := match w.cell? ⟨b, o + j, none⟩ with
  | some (.int _ x) => x
  | _ => 0
def rowInts (w : World) : Value → List Int
  | .slice (some ⟨b, o, none⟩) n _ => (List.range n).map (numAt w b o)
  | _ => []
theorem row_ints {w : World} {v : Value} {xs : List Int} (h : RowK .i64 w v xs) : rowInts w v = xs := by
  rcases h with ⟨rfl, rfl, -⟩ | ⟨b, o, cap, rfl, -, -, h4, -⟩
  · rfl
  · apply List.ext_getElem
    · simp [rowInts]
    · intro i h1 h2
      simp only [rowInts, List.getElem_map, List.getElem_range, numAt]
      rw [h4 i h2]
      simp [List.getD, h2]
structure DvI (w : World) (G : Nat) (x y : Value) (wr : World) (xs ys : List Int) : Prop where
  r1 : RowK .i64 wr x xs
  r2 : RowK .i64 wr y ys
  g1 : good xs
  g2 : good ys
  n1 : norm xs
  n2 : norm ys
  s1 : xs.length ≤ 64
  s2 : ys.length ≤ 64
  gcd : ∃ m n : Nat, val xs = m ∧ val ys = n ∧ Nat.gcd m n = G
  bel : Below w.heap.size w wr
def DvRel (w : World) (G : Nat) (x y : Value) (wr : World) : Prop := ∃ xs ys, DvI w G x y wr xs ys
set_option maxHeartbeats 3200000 in
set_option maxRecDepth 100000 in
theorem Divisor_c {w : World} {p q : Bool} {s t : Value} {xs ys : List Int} (r1 : RowK .i64 w s xs) (r2 : RowK .i64 w t ys) (g1 : good xs) (g2 : good ys) (n1 : norm xs) (n2 : norm ys) (s1 : xs.length ≤ 64) (s2 : ys.length ≤ 64) :
    Calls Tryz.prog 61 #[.agg #[.bool p, s], .agg #[.bool q, t]] w (Gets (fun w' r => LongV w' r ((Nat.gcd (val xs).toNat (val ys).toNat : Nat) : Int)) w) := by
  obtain ⟨a, c, rfl, hc⟩ := r1.len
  obtain ⟨a', c', rfl, hc'⟩ := r2.len
  obtain ⟨k1, k2, k3⟩ := heapT3' w (.cells #[.bool p, .slice a xs.length c] 64) (.cells #[.bool q, .slice a' ys.length c'] 64) (.cells #[.bool false, .slice none 0 0] 64)
  have bw : Below w.heap.size w (((w.alloc (.cells #[.bool p, .slice a xs.length c] 64)).alloc (.cells #[.bool q, .slice a' ys.length c'] 64)).alloc (.cells #[.bool false, .slice none 0 0] 64)) := below_al (below_al (below_al (Below.refl _ _) _) _) _
  have hbs : (((w.alloc (.cells #[.bool p, .slice a xs.length c] 64)).alloc (.cells #[.bool q, .slice a' ys.length c'] 64)).alloc (.cells #[.bool false, .slice none 0 0] 64)).heap.size = w.heap.size + 3 := by simp
  obtain ⟨G, hG⟩ : ∃ G, Nat.gcd (val xs).toNat (val ys).toNat = G := ⟨_, rfl⟩
  rw [hG]
  go_enter Tryz.func61, Tryz.ntmps61
  go_upto_region 1 with (fail)
  generalize (((w.alloc (.cells #[.bool p, .slice a xs.length c] 64)).alloc (.cells #[.bool q, .slice a' ys.length c'] 64)).alloc (.cells #[.bool false, .slice none 0 0] 64)) = wb at *
  obtain ⟨f1, f2, f3, f4⟩ := cells2 k1
  obtain ⟨f5, f6, f7, f8⟩ := cells2 k2
  have fz := cells2 k3
  have hbs' := Lib.hid hbs
  have k3' := Lib.hid k3
  clear hbs k1 k2 k3
  go_quiet (fail)
  have b1 := val_bounds g1
  have b2 := val_bounds g2
  have x1 : Below wb.heap.size wb (wb.drewN nq) := below_drewN (Below.refl _ _)
  have R1 := r1.below (bw.trans (x1.mono bw.size))
  have R2 := r2.below (bw.trans (x1.mono bw.size))
  clear r1 r2 f1 f2 f3 f4 f5 f6 f7 f8 fz
  go_wp2
  generalize wb.drewN nq = w1 at *
  go_loopw [5, 6] (DvRel wb G) (fun _ y wr => (val (rowInts wr y)).toNat)
  case atStart =>
    exact ⟨xs, ys, R1, R2, g1, g2, n1, n2, s1, s2, ⟨(val xs).toNat, (val ys).toNat, by omega, by omega, hG⟩, x1⟩
  case round =>
    clear R1 R2 x1 g1 g2 n1 n2 s1 s2 hG b1 b2
    obtain ⟨us, vs, D⟩ := hrel
    obtain ⟨au, cu, rfl, hcu⟩ := D.r1.len
    obtain ⟨av, cv, rfl, hcv⟩ := D.r2.len
    have hm0 := row_ints D.r2
    obtain ⟨m, n, em, en, eg⟩ := D.gcd
    by_cases h0 : 0 < vs.length
    · have hP := fun W (r1 : RowK .i64 W (.slice au us.length cu) us) (r2 : RowK .i64 W (.slice av vs.length cv) vs) => parts_c r1 r2 D.g1 D.g2 D.n1 D.n2 (Nat.le_trans D.s1 (by decide)) (Nat.le_trans D.s2 (by decide)) h0
      have hv0 : 0 < n := by
        have := norm_low D.g2 D.n2 h0
        have := pw_pos (vs.length - 1)
        omega
      have h0' : (0 : Int) < (vs.length : Int) := by omega
      have hvs := Lib.hid hm0
      clear hm0
      go_wp2_with fail
      refine (hP _ D.r1 D.r2).mono ?_
      rintro e w4 ⟨v4, rfl, ⟨qv, rv, rfl, -, ⟨rs, hr, gr, nr, vr⟩⟩, hb4⟩
      have e1 : val rs = ((m % n : Nat) : Int) := by rw [vr, em, en]; rfl
      have hlt := Nat.mod_lt m hv0
      have D' : DvI wb G (.slice av vs.length cv) rv w4 vs rs := by
        refine ⟨D.r2.below hb4, hr, D.g2, gr, D.n2, nr, D.s2, ?_, ⟨n, m % n, en, e1, ?_⟩, next0 D.bel hb4⟩
        · refine Nat.le_trans (dig_len_le gr nr D.g2 ?_) D.s2
          rw [e1, en]; omega
        · rw [Nat.gcd_comm n, ← Nat.gcd_rec, Nat.gcd_comm, eg]
      have hmr := row_ints hr
      clear hP D hr
      go_wp2
      go_roundw
      case rel => exact ⟨_, _, D'⟩
      case measure => 
        rw [hmr, hvs.out, e1, en]
        omega
    · have hn : n = 0 := by
        have : vs = [] := List.eq_nil_of_length_eq_zero (by omega)
        rw [this, val_nil] at en; omega
      have hl : vs.length = 0 := by omega
      subst hn
      rw [Nat.gcd_zero_right] at eg
      subst eg
      have m4 := (D.bel.block (w.heap.size + 1 + 1) (by have := hbs'.out; omega)).trans k3'.out
      obtain ⟨f9, f10, f11, f12⟩ := cells2 m4
      have F4 := set2_heap m4 (.bool false) (.slice au us.length cu)
      have L : LongV wr (.agg #[.bool false, .slice au us.length cu]) (m : Int) := ⟨false, _, us, rfl, D.r1, D.g1, D.n1, (fun h => by cases h), em.symm⟩
      have L4 := long_set2 m4 L (.bool false) (.slice au us.length cu)
      obtain ⟨h4, h5, -, -⟩ := cells2 F4
      have GB : Below w.heap.size w ((wr.setCell ⟨w.heap.size + 1 + 1, 0, none⟩ (.bool false)).setCell ⟨w.heap.size + 1 + 1, 1, none⟩ (.slice au us.length cu)) := ((bw.trans (D.bel.mono bw.size)).setCell (by simp; omega) _).setCell (by simp; omega) _
      rw [hl] at *
      clear D m4 F4 L em en hm0
      go_wp2
      exact bodyPost_ret (v := .agg #[.bool false, .slice au us.length cu]) (by simp [results, Tryz.results61, go_sem, h4, h5]) rfl ⟨_, rfl, L4, GB⟩
end Go.Proofs.YtedhjlkidcojhaaGreat
