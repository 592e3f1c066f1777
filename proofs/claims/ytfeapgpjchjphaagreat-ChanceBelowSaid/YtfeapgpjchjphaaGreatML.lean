/-
  Contracts of the reference's integers of any length: Times, Minus, Order.
  Contracts of the reference's integers of any length: Order, Raised.
  Contracts of the reference's integers of any length: Raised.
  Contracts of the reference: In.
  Contracts of the reference: Out, its loop.
  Contracts of the reference: Out, where it does not fit.
-/
import Derived.Test.YtfeapgpjchjphaaGreatMK
import Derived.StillTailTactics
set_option linter.all false
namespace Go.Proofs.YtfeapgpjchjphaaGreat
open Go Go.RowKit Go.Big
variable [Av]
theorem small_neg {x : Int} (h : small x) : small (- x) := by unfold small at *; omega
theorem prod_len {xs ys zs : List Int} (g1 : good xs) (g2 : good ys) (gz : good zs) (nz : norm zs) (h : val zs = val xs * val ys) (l1 : xs.length ≤ 64) (l2 : ys.length ≤ 64) : zs.length ≤ 1048576 := by
  rcases Nat.lt_or_ge 1048576 zs.length with h' | h'
  · have h1 := norm_low gz nz (by omega)
    have h2 := pw_mono (show 128 ≤ zs.length - 1 by omega)
    have h3 := val_bounds g1
    have h4 := val_bounds g2
    have h5 := pw_mono l1
    have h6 := pw_mono l2
    have h7 : pw 128 = pw 64 * pw 64 := pw_add 64 64
    have h8 : val xs * val ys ≤ pw 64 * pw 64 - 1 := by
      have e1 : val xs * val ys ≤ (pw 64 - 1) * val ys := Int.mul_le_mul_of_nonneg_right (by omega) h4.1
      have e2 : (pw 64 - 1) * val ys ≤ (pw 64 - 1) * (pw 64 - 1) := Int.mul_le_mul_of_nonneg_left (by omega) (by have := pw_pos 64; omega)
      have e3 : (pw 64 - 1) * (pw 64 - 1) ≤ pw 64 * pw 64 - 1 := by
        have := pw_pos 64
        generalize pw 64 = z at *
        have : (z - 1) * (z - 1) = z * z - 2 * z + 1 := by grind
        omega
      omega
    omega
  · exact h'
set_option maxHeartbeats 400000 in
set_option maxRecDepth 100000 in
theorem times_c {w : World} {u v : Value} {x y : Int} (h1 : LongV w u x) (h2 : LongV w v y) (k1 : small x) (k2 : small y) : Calls Tryz.prog 29 #[u, v] w (Gets (fun w' r => LongV w' r (x * y)) w) := by
  obtain ⟨p, s, xs, rfl, r1, g1, n1, z1, rfl⟩ := h1
  obtain ⟨q, t, ys, rfl, r2, g2, n2, z2, rfl⟩ := h2
  have l1 := small_len g1 n1 rfl k1
  have l2 := small_len g2 n2 rfl k2
  have e : sgz p (val xs) * sgz q (val ys) = sgz (p != q) (val xs * val ys) := by
    cases p <;> cases q <;> simp [sgz, Int.neg_mul, Int.mul_neg]
  rw [e]
  obtain ⟨a, c, rfl, hc⟩ := r1.len
  obtain ⟨a', c', rfl, hc'⟩ := r2.len
  clear e z1 z2 k1 k2
  generalize hL : xs.length = L at *
  generalize hM : ys.length = M at *
  have b0 := fun o1 o2 o3 => (start3 w o1 o2 o3).drew
  go_enter Tryz.func29, Tryz.ntmps29
  go_wp2
  go_region_held3 (fun w' => w'.cell? ⟨w.heap.size, 0, none⟩ = some (.bool p) ∧ w'.cell? ⟨w.heap.size, 1, none⟩ = some (.slice a L c) ∧ w'.cell? ⟨w.heap.size + 1, 0, none⟩ = some (.bool q) ∧ w'.cell? ⟨w.heap.size + 1, 1, none⟩ = some (.slice a' M c'))
    (first | exact boxes2 ((b0 _ _ _).mono (by omega)) | exact boxes2 (b1.mono (by omega)) | exact boxes2 (b2.mono (by omega)) | exact boxes2 (((b2.mono (by omega)).setCell (by simp) _).setCell (by simp) _))
    (first | (go_at_call 58; refine (product_c (r1.below (below3 (b0 _ _ _))) (r2.below (below3 (b0 _ _ _))) g1 g2 (by omega) (by omega)).mono ?_; rintro e w1 ⟨x, rfl, ⟨zs, hz, gz, nz, vz⟩, hb⟩; have b1 := next3 (b0 _ _ _) hb; have lz : zs.length ≤ 1048576 := prod_len g1 g2 gz nz vz (by omega) (by omega)) | (go_at_call 57; refine (made_c (p != q) hz gz lz).mono ?_; rintro e w2 ⟨y, rfl, ⟨bb, ss, zz, rfl, hr, hy⟩, hb2⟩; obtain ⟨sa, sc, rfl, hsl⟩ := hr.len; have b2 := next3 b1 hb2; obtain ⟨_, _, _, _, z1, z2, z3, z4⟩ := boxes3 b2))
  have F := LongV.box2 ⟨bb, _, zz, rfl, hr, hy⟩ z1 z2 (.bool bb) (.slice sa zz.length sc)
  have hB := below3 b2
  have hB : Below w.heap.size w ((w2.setCell ⟨w.heap.size + 1 + 1, 0, none⟩ (.bool bb)).setCell ⟨w.heap.size + 1 + 1, 1, none⟩ (.slice sa zz.length sc)) := (hB.setCell (by simp; omega) _).setCell (by simp; omega) _
  rw [vz] at F
  go_wp2
  exact bodyPost_ret (v := .agg #[.bool bb, .slice sa zz.length sc]) (by simp [results, Tryz.results29, go_sem, z1, z2]) rfl ⟨_, rfl, F, hB⟩
set_option maxHeartbeats 400000 in
set_option maxRecDepth 100000 in
theorem minus_c {w : World} {u v : Value} {x y : Int} (h1 : LongV w u x) (h2 : LongV w v y) (k1 : small x) (k2 : small y) : Calls Tryz.prog 34 #[u, v] w (Gets (fun w' r => LongV w' r (x - y)) w) := by
  have h1' := h1
  have h2' := h2
  obtain ⟨p, s, xs, rfl, r1, _⟩ := h1'
  obtain ⟨q, t, ys, rfl, r2, _⟩ := h2'
  obtain ⟨a, c, rfl, hc⟩ := r1.len
  obtain ⟨a', c', rfl, hc'⟩ := r2.len
  have b0 := fun o1 o2 o3 => (start3 w o1 o2 o3).drew
  go_enter Tryz.func34, Tryz.ntmps34
  go_wp2
  go_region_held3 (fun w' => w'.cell? ⟨w.heap.size, 0, none⟩ = some (.bool p) ∧ w'.cell? ⟨w.heap.size, 1, none⟩ = some (.slice a xs.length c) ∧ w'.cell? ⟨w.heap.size + 1, 0, none⟩ = some (.bool q) ∧ w'.cell? ⟨w.heap.size + 1, 1, none⟩ = some (.slice a' ys.length c'))
    (first | exact boxes2 ((b0 _ _ _).mono (by omega)) | exact boxes2 (b1.mono (by omega)) | exact boxes2 (b2.mono (by omega)) | exact boxes2 (((b2.mono (by omega)).setCell (by simp) _).setCell (by simp) _))
    (first | (go_at_call 35; refine (turn_c (h2.below (below3 (b0 _ _ _))) k2).mono ?_; rintro e w1 ⟨x1, rfl, hx1, hb⟩; have b1 := next3 (b0 _ _ _) hb) | (go_at_call 33; refine (plus_c (h1.below (below3 b1)) hx1 k1 (small_neg k2)).mono ?_; rintro e w2 ⟨y1, rfl, hy1, hb2⟩; obtain ⟨bb, ss, zz, rfl, hr, hy⟩ := hy1; obtain ⟨sa, sc, rfl, hsl⟩ := hr.len; have b2 := next3 b1 hb2; obtain ⟨_, _, _, _, z1, z2, z3, z4⟩ := boxes3 b2))
  have F := LongV.box2 ⟨bb, _, zz, rfl, hr, hy⟩ z1 z2 (.bool bb) (.slice sa zz.length sc)
  have hB := below3 b2
  have hB : Below w.heap.size w ((w2.setCell ⟨w.heap.size + 1 + 1, 0, none⟩ (.bool bb)).setCell ⟨w.heap.size + 1 + 1, 1, none⟩ (.slice sa zz.length sc)) := (hB.setCell (by simp; omega) _).setCell (by simp; omega) _
  rw [← Int.sub_eq_add_neg] at F
  go_wp2
  exact bodyPost_ret (v := .agg #[.bool bb, .slice sa zz.length sc]) (by simp [results, Tryz.results34, go_sem, z1, z2]) rfl ⟨_, rfl, F, hB⟩
end Go.Proofs.YtfeapgpjchjphaaGreat
namespace Go.Proofs.YtfeapgpjchjphaaGreat
open Go Go.RowKit Go.Big
variable [Av]
def ordI (x y : Int) : Int := if x < y then -1 else if y < x then 1 else 0
theorem sign_t {zs : List Int} {z : Int} (g : good zs) (n : norm zs) (hl : 0 < zs.length) (h : z = sgz true (val zs)) : z < 0 := by
  have := norm_low g n hl
  have := pw_pos (zs.length - 1)
  rw [sgz_t] at h; omega
theorem sign_f {zs : List Int} {z : Int} (g : good zs) (n : norm zs) (h : z = sgz false (val zs)) : (0 < zs.length → 0 < z) ∧ (zs.length = 0 → z = 0) := by
  rw [sgz_f] at h
  refine ⟨fun hl => ?_, fun hl => ?_⟩
  · have := norm_low g n hl
    have := pw_pos (zs.length - 1)
    omega
  · rw [List.eq_nil_of_length_eq_zero hl] at h; exact h
set_option maxHeartbeats 400000 in
set_option maxRecDepth 100000 in
theorem order_l {w : World} {u v : Value} {x y : Int} (h1 : LongV w u x) (h2 : LongV w v y) (k1 : small x) (k2 : small y) : Calls Tryz.prog 31 #[u, v] w (Gets (fun _ r => r = .int .i64 (ordI x y)) w) := by
  have h1' := h1
  have h2' := h2
  obtain ⟨p, s, xs, rfl, r1, _⟩ := h1'
  obtain ⟨q, t, ys, rfl, r2, _⟩ := h2'
  obtain ⟨a, c, rfl, hc⟩ := r1.len
  obtain ⟨a', c', rfl, hc'⟩ := r2.len
  have b0 := fun o1 o2 => (((Below.refl w.heap.size w).alloc (Nat.le_refl _) o1).alloc (by simp) o2)
  go_enter Tryz.func31, Tryz.ntmps31
  go_wp2_with fail
  refine (minus_c (h1.below (b0 _ _)) (h2.below (b0 _ _)) k1 k2).mono ?_
  rintro e w1 ⟨d, rfl, ⟨bb, ss, zs, rfl, hr, gz, nz, lz, hz⟩, hb⟩
  obtain ⟨sa, sc, rfl, hsl⟩ := hr.len
  have hb1 : Below w.heap.size w w1 := (b0 _ _).trans (hb.mono (by simp; omega))
  have hB : ∀ o, Below w.heap.size w (w1.alloc o) := fun o => hb1.alloc hb1.size o
  clear h1 h2 r1 r2
  cases bb with
  | true =>
    have hs := sign_t gz nz (lz rfl) hz
    have ho : ordI x y = -1 := by unfold ordI; rw [if_pos (by omega)]
    clear hz hs
    go_wp2
    go_ret
    exact ⟨_, rfl, congrArg (Value.int .i64) ho.symm, hB _⟩
  | false =>
    have hs := sign_f gz nz hz
    by_cases hl : 0 < zs.length
    · have ho : ordI x y = 1 := by have := hs.1 hl; unfold ordI; rw [if_neg (by omega), if_pos (by omega)]
      clear hz hs
      go_wp2
      go_ret
      exact ⟨_, rfl, congrArg (Value.int .i64) ho.symm, hB _⟩
    · have ho : ordI x y = 0 := by have := hs.2 (by omega); unfold ordI; rw [if_neg (by omega), if_neg (by omega)]
      clear hz hs
      go_wp2
      go_ret
      exact ⟨_, rfl, congrArg (Value.int .i64) ho.symm, hB _⟩
end Go.Proofs.YtfeapgpjchjphaaGreat
namespace Go.Proofs.YtfeapgpjchjphaaGreat
open Go Go.RowKit Go.Big
variable [Av]
/-- Block B is a variable that holds z. -/
def LongAt (W : World) (B : Nat) (z : Int) : Prop :=
  ∃ bb sa n sc, W.cell? ⟨B, 0, none⟩ = some (.bool bb) ∧ W.cell? ⟨B, 1, none⟩ = some (.slice sa n sc) ∧ W.frozen? ⟨B, 0, none⟩ = false ∧ W.frozen? ⟨B, 1, none⟩ = false ∧ B < W.heap.size ∧ LongV W (.agg #[.bool bb, .slice sa n sc]) z
theorem LongAt.below {W W' : World} {B : Nat} {z : Int} (h : LongAt W B z) (hb : Below W.heap.size W W') : LongAt W' B z := by
  obtain ⟨bb, sa, n, sc, h0, h1, f0, f1, hB, hv⟩ := h
  exact ⟨bb, sa, n, sc, (hb.cell hB).trans h0, (hb.cell hB).trans h1, (hb.frozen hB).trans f0, (hb.frozen hB).trans f1, Nat.lt_of_lt_of_le hB hb.size, hv.below hb⟩
theorem LongAt.store {W : World} {B : Nat} {z z' : Int} (h : LongAt W B z) {bb : Bool} {sa : Option Addr} {n sc : Nat} (hv : LongV W (.agg #[.bool bb, .slice sa n sc]) z') :
    LongAt ((W.setCell ⟨B, 0, none⟩ (.bool bb)).setCell ⟨B, 1, none⟩ (.slice sa n sc)) B z' := by
  obtain ⟨b', sa', n', sc', h0, h1, f0, f1, hB, _⟩ := h
  refine ⟨bb, sa, n, sc, ?_, ?_, ?_, ?_, by simpa using hB, hv.box2 h0 h1 _ _⟩
  · rw [World.cell?_setCell_other _ _ _ _ (by simp), World.cell?_setCell_same _ _ _ h0]
  · rw [World.cell?_setCell_same _ _ _ (u := .slice sa' n' sc') (by rw [World.cell?_setCell_other _ _ _ _ (by simp)]; exact h1)]
  · simpa using f0
  · simpa using f1
theorem LongAt.new {W : World} {z : Int} {bb : Bool} {sa : Option Addr} {n sc : Nat} (hv : LongV W (.agg #[.bool bb, .slice sa n sc]) z) (t : TypeId) : LongAt (W.alloc (.cells #[.bool bb, .slice sa n sc] t)) W.heap.size z := by
  have k := (MapKept.heap_alloc W (.cells #[.bool bb, .slice sa n sc] t)).1
  exact ⟨bb, sa, n, sc, cellOf k, cellOf k, frozenOf k, frozenOf k, by simp, hv.below ((Below.refl _ _).alloc (Nat.le_refl _) _)⟩
omit [Av] in
theorem LongAt.move {A A' : Nat → Prop} {W W' : World} {B : Nat} {z : Int} (h : @LongAt ⟨A⟩ W B z) (hs : W.heap.size ≤ W'.heap.size) (hB : W'.heap[B]? = W.heap[B]?) (hc : ∀ b, ¬ A b → b < W.heap.size → W'.heap[b]? = W.heap[b]?)
    (hA : ∀ g, A' g → g < W'.heap.size) (hb : ∀ b, b < W.heap.size → ¬ A b → ¬ A' b) : @LongAt ⟨A'⟩ W' B z := by
  obtain ⟨bb, sa, n, sc, h0, h1, f0, f1, hlt, hv⟩ := h
  have ec : ∀ j, W'.cell? ⟨B, j, none⟩ = W.cell? ⟨B, j, none⟩ := fun j => by simp only [World.cell?, hB]
  have ef : ∀ j, W'.frozen? ⟨B, j, none⟩ = W.frozen? ⟨B, j, none⟩ := fun j => by simp only [World.frozen?, hB]
  exact ⟨bb, sa, n, sc, (ec 0).trans h0, (ec 1).trans h1, (ef 0).trans f0, (ef 1).trans f1, Nat.lt_of_lt_of_le hlt hs, hv.move hs hc hA hb⟩
def RaisedRel (w : World) (x : Int) (u0 u1 : Value) (B n : Nat) (i : Value) (wr : World) : Prop :=
  ∃ k : Nat, i = .int .i64 k ∧ k ≤ n ∧ Below w.heap.size w wr ∧ w.heap.size + 1 < B ∧ wr.cell? ⟨w.heap.size, 0, none⟩ = some u0 ∧ wr.cell? ⟨w.heap.size, 1, none⟩ = some u1 ∧ wr.cell? ⟨w.heap.size + 1, 0, none⟩ = some (.bool false) ∧ wr.cell? ⟨w.heap.size + 1, 1, none⟩ = some (.slice none 0 0) ∧ wr.frozen? ⟨w.heap.size + 1, 0, none⟩ = false ∧ wr.frozen? ⟨w.heap.size + 1, 1, none⟩ = false ∧ LongAt wr B (x ^ k)
set_option maxHeartbeats 800000 in
set_option maxRecDepth 100000 in
theorem raised_c {w : World} {u : Value} {x : Int} (h : LongV w u x) (n : Nat) (hn : n ≤ 600) (hx : small x) (hs : ∀ k, k ≤ n → small (x ^ k)) : Calls Tryz.prog 27 #[u, .int .i64 n] w (Gets (fun w' r => LongV w' r (x ^ n)) w) := by
  have h' := h
  obtain ⟨p, s, xs, rfl, r1, -⟩ := h'
  obtain ⟨a, c, rfl, hc⟩ := r1.len
  have b0 := fun o1 o2 : Obj => Below.refl (w.heap.size + 1 + 1) ((w.alloc o1).alloc o2)
  go_enter Tryz.func27, Tryz.ntmps27
  go_wp2_with fail
  refine (long1_c (fun g hg => by have := h.av g hg; simp; omega) 1 (by omega) (by omega)).mono ?_
  rintro e w1 ⟨d, rfl, hd, hb⟩
  have hd' := hd
  obtain ⟨b1, s1, zs1, rfl, hr1, -⟩ := hd'
  obtain ⟨sa1, sc1, rfl, _⟩ := hr1.len
  have b1' := next2 (b0 _ _) hb
  have hsz := b1'.size
  obtain ⟨q1, q2, q3, q4⟩ := res2 b1'
  have k0 := (b1'.block w.heap.size (by omega)).trans (heap2 w _ _).1
  have c0 := cellOf (j := 0) k0
  have c1 := cellOf (j := 1) k0
  have hnew := LongAt.new hd 69
  have hB1 : w.heap.size + 1 < w1.heap.size := by simp at hsz; omega
  have N := Below.alloc (Below.refl w1.heap.size w1) (Nat.le_refl _) (.cells #[.bool b1, .slice sa1 zs1.length sc1] 69)
  have hrel : RaisedRel w x (.bool p) (.slice a xs.length c) w1.heap.size n (.int .i64 0) (w1.alloc (.cells #[.bool b1, .slice sa1 zs1.length sc1] 69)) :=
    ⟨0, rfl, Nat.zero_le _, (below2 b1').trans (N.mono (by omega)), hB1, (N.cell (by simp; omega)).trans c0, (N.cell (by simp; omega)).trans c1, (N.cell (by simp; omega)).trans q1, (N.cell (by simp; omega)).trans q2, (N.frozen (by simp; omega)).trans q3, (N.frozen (by simp; omega)).trans q4, by rw [Int.pow_zero]; exact hnew⟩
  generalize hW : w1.alloc (.cells #[.bool b1, .slice sa1 zs1.length sc1] 69) = w2 at hrel
  generalize hBB : w1.heap.size = B at *
  clear hnew N q1 q2 q3 q4 c0 c1 k0
  go_wp2
  go_loopw [6] (RaisedRel w x (.bool p) (.slice a xs.length c) B n) (fun i _ => n - (intOf i).toNat)
  case atStart => exact hrel
  case round =>
    obtain ⟨k, rfl, hk, bel, hB, a0, a1, d0, d1, e0, e1, hat⟩ := hrel
    by_cases hkn : k < n
    · have hat' := hat
      obtain ⟨bb, sa, m, sc, g0, g1, f0, f1, hBl, hv⟩ := hat'
      go_wp2_with fail
      refine (times_c hv (h.below bel) (hs k hk) hx).mono ?_
      rintro e w3 ⟨y, rfl, hy, hb3⟩
      have hat3 := hat.below hb3
      have hy' := hy
      obtain ⟨bb3, s3, zs3, rfl, hr3, -⟩ := hy'
      obtain ⟨sa3, sc3, rfl, _⟩ := hr3.len
      rw [← Int.pow_succ] at hy
      have hat4 := hat3.store hy
      have hsz3 := bel.size
      have z0 : w.heap.size < wr.heap.size := World.block_lt_of_cell? _ _ a0
      have z1 : w.heap.size + 1 < wr.heap.size := World.block_lt_of_cell? _ _ d0
      have hrel4 : RaisedRel w x (.bool p) (.slice a xs.length c) B n (.int .i64 ((k : Int) + 1)) ((w3.setCell ⟨B, 0, none⟩ (.bool bb3)).setCell ⟨B, 1, none⟩ (.slice sa3 zs3.length sc3)) := by
        have M : Below (w.heap.size + 1 + 1) wr ((w3.setCell ⟨B, 0, none⟩ (.bool bb3)).setCell ⟨B, 1, none⟩ (.slice sa3 zs3.length sc3)) := ((hb3.mono (by omega)).setCell (by simp; omega) _).setCell (by simp; omega) _
        exact ⟨k + 1, rfl, by omega, bel.trans (M.mono (by omega)), hB, (M.cell (by simp; omega)).trans a0, (M.cell (by simp; omega)).trans a1, (M.cell (by simp)).trans d0, (M.cell (by simp)).trans d1, (M.frozen (by simp)).trans e0, (M.frozen (by simp)).trans e1, hat4⟩
      obtain ⟨bb', sa', m', sc', g0', g1', f0', f1', hBl', _⟩ := hat3
      clear hat4 hat hy hv h
      go_wp2
      go_roundw
      case rel => exact hrel4
      case measure => simp [intOf]; omega
    · obtain rfl : k = n := by omega
      have hat' := hat
      obtain ⟨bb, sa, m, sc, g0, g1, f0, f1, hBl, hv⟩ := hat'
      have F := hv.box2 d0 d1 (.bool bb) (.slice sa m sc)
      have hbel : Below w.heap.size w ((wr.setCell ⟨w.heap.size + 1, 0, none⟩ (.bool bb)).setCell ⟨w.heap.size + 1, 1, none⟩ (.slice sa m sc)) := (bel.setCell (by simp) _).setCell (by simp) _
      clear hat hv h
      go_wp2
      exact bodyPost_ret (v := .agg #[.bool bb, .slice sa m sc]) (by simp [results, Tryz.results27, go_sem, d0, d1]) rfl ⟨_, rfl, F, hbel⟩
end Go.Proofs.YtfeapgpjchjphaaGreat
namespace Go.Proofs.YtfeapgpjchjphaaGreat
open Go Go.RowKit Go.Big
attribute [local instance] noAv
/-- The integer that eight words stand for. -/
def wint (ws : List Int) : Int := if ws.getD 7 0 < 9223372036854775808 then wval ws else wval ws - 13407807929942597099574024998205846127479365820592393377723561443721764030073546976801874298166903427690031858186486050853753882811946569946433649006084096
theorem pw16 : pw 16 = 13407807929942597099574024998205846127479365820592393377723561443721764030073546976801874298166903427690031858186486050853753882811946569946433649006084096 := by decide
theorem wval_lt : ∀ {ws : List Int}, wgood ws → 0 ≤ wval ws ∧ wval ws < pw (2 * ws.length)
  | [], _ => by simp [wval, pw]
  | x :: xs, h => by
    have h1 := h x (by simp)
    have h2 := wval_lt (ws := xs) fun y hy => h y (by simp [hy])
    have e : pw (2 * (x :: xs).length) = 18446744073709551616 * pw (2 * xs.length) := by
      rw [List.length_cons, show 2 * (xs.length + 1) = 2 * xs.length + 1 + 1 by omega, pw_succ, pw_succ]; omega
    rw [e]; simp only [wval]; omega
instance (xs : List Int) : Decidable (good xs) := inferInstanceAs (Decidable (∀ x ∈ xs, 0 ≤ x ∧ x < 4294967296))
def wholeL : List Int := [0, 0, 0, 0, 0, 0, 0, 0, 0, 0, 0, 0, 0, 0, 0, 0, 1]
theorem whole_val : val wholeL = pw 16 := by decide
theorem whole_good : good wholeL := by decide +kernel
theorem prodI_made {w1 w0 : World} {n : Nat} (h : w0.ownsRow w1.heap.size 3 1 (.slice (some ⟨w1.heap.size, 0, none⟩) n n) n (madeCells (Value.int .i64 0).cells (n * 1)).toList) (hg : w1.grownBy w0 none) (m : Nat) : ProdI w1 n m w0 (List.replicate n 0) := by
  have e : (madeCells (Value.int .i64 0).cells (n * 1)).toList = (List.replicate n (0 : Int)).map (Value.int .i64) := by rw [Nat.mul_one]; exact made_zeros n
  rw [e] at h
  exact ⟨h, by simp, good_zeros n, fun t _ => getD_zeros n t, (Below.refl _ _).grown hg (Nat.le_refl _) (fun k h => by cases h)⟩
set_option maxHeartbeats 1600000 in
set_option maxRecDepth 100000 in
theorem in_c {w : World} (a0 a1 a2 a3 a4 a5 a6 a7 : Int) (hg : wgood [a0, a1, a2, a3, a4, a5, a6, a7]) :
    Calls Tryz.prog 41 #[.agg #[.int .u64 a0, .int .u64 a1, .int .u64 a2, .int .u64 a3, .int .u64 a4, .int .u64 a5, .int .u64 a6, .int .u64 a7]] w (Gets (fun w' r => LongV w' r (wint [a0, a1, a2, a3, a4, a5, a6, a7])) w) := by
  have b0 := fun o1 o2 : Obj => Below.refl (w.heap.size + 1 + 1) ((w.alloc o1).alloc o2)
  have hgd := halfs_good hg
  have hvl := halfs_val [a0, a1, a2, a3, a4, a5, a6, a7]
  have hln := halfs_len [a0, a1, a2, a3, a4, a5, a6, a7]
  have hlt := wval_lt hg
  by_cases h7 : a7 < 9223372036854775808
  · have hw : wint [a0, a1, a2, a3, a4, a5, a6, a7] = sgz false (val (halfs [a0, a1, a2, a3, a4, a5, a6, a7])) := by
      unfold wint; rw [if_pos (by simpa using h7), hvl, sgz_f]
    go_enter Tryz.func41, Tryz.ntmps41
    go_wp2_with fail
    refine (halves_c (ws := [a0, a1, a2, a3, a4, a5, a6, a7]) rfl hg).mono ?_
    rintro e w1 ⟨d, rfl, hd, hb⟩
    have b1 := next2 (b0 _ _) hb
    have c7 : w1.cell? ⟨w.heap.size, 7, none⟩ = some (.int .u64 a7) := (cellOf (j := 7) ((b1.block w.heap.size (by omega)).trans (heap2 w _ _).1)).trans rfl
    go_wp2_with fail
    refine (made_c false hd hgd (by rw [hln]; simp)).mono ?_
    rintro e w2 ⟨y, rfl, ⟨bb, ss, zz, rfl, hr, hy⟩, hb2⟩
    obtain ⟨sa, sc, rfl, hsl⟩ := hr.len
    have b2 := next2 b1 hb2
    obtain ⟨q1, q2, q3, q4⟩ := res2 b2
    have F := LongV.box2 ⟨bb, _, zz, rfl, hr, hy⟩ q1 q2 (.bool bb) (.slice sa zz.length sc)
    rw [← hw] at F
    have hB := below2 b2
    have hB : Below w.heap.size w ((w2.setCell ⟨w.heap.size + 1, 0, none⟩ (.bool bb)).setCell ⟨w.heap.size + 1, 1, none⟩ (.slice sa zz.length sc)) := (hB.setCell (by simp) _).setCell (by simp) _
    clear hw hvl hln hd hgd
    go_wp2
    exact bodyPost_ret (v := .agg #[.bool bb, .slice sa zz.length sc]) (by simp [results, Tryz.results41, go_sem, q1, q2]) rfl ⟨_, rfl, F, hB⟩
  · have hw : wint [a0, a1, a2, a3, a4, a5, a6, a7] = sgz true (val wholeL - val (halfs [a0, a1, a2, a3, a4, a5, a6, a7])) := by
      unfold wint; rw [if_neg (by simpa using h7), hvl, sgz_t, whole_val, pw16]; omega
    obtain ⟨i0, hi, hz0, hz1, hz2⟩ := info_parts Tryz.info3
    have hle : val (halfs [a0, a1, a2, a3, a4, a5, a6, a7]) ≤ val wholeL := by
      rw [hvl, whole_val]; have := hlt.2; simp only [List.length_cons, List.length_nil] at this; exact Int.le_of_lt this
    have hl16 : (halfs [a0, a1, a2, a3, a4, a5, a6, a7]).length = 16 := by rw [hln]; simp
    have hpos : val wholeL - val (halfs [a0, a1, a2, a3, a4, a5, a6, a7]) ≤ pw 16 := by
      have := (val_bounds hgd).1; rw [whole_val]; omega
    clear hvl hln
    go_enter Tryz.func41, Tryz.ntmps41
    go_wp2_with fail
    refine (halves_c (ws := [a0, a1, a2, a3, a4, a5, a6, a7]) rfl hg).mono ?_
    rintro e w1 ⟨d, rfl, hd, hb⟩
    have b1 := next2 (b0 _ _) hb
    have c7 : w1.cell? ⟨w.heap.size, 7, none⟩ = some (.int .u64 a7) := (cellOf (j := 7) ((b1.block w.heap.size (by omega)).trans (heap2 w _ _).1)).trans rfl
    generalize halfs [a0, a1, a2, a3, a4, a5, a6, a7] = hs at hd hgd hw hle hl16 hpos
    go_wp2_with (at_make; refine wpList_make_full _ rfl _ _ 45 rfl w1.heap.size 3 i0 (.int .i64 0) 1 Tryz.underlying45 hi hz0 hz1 _ _ _ _ 17 rfl rfl rfl rfl (by rw [hz2]; decide) (by decide) (Nat.le_refl _) ?_; intro w0 hown0 hgrow0; have I0 := prodI_made hown0 hgrow0 16; have f16 := I0.fz 16; have k16 := I0.cell (j := 16) (by decide))
    have I1 : ProdI w1 17 17 (w0.setCell ⟨w1.heap.size, 16, none⟩ (.int .i64 1)) wholeL := I0.set (m' := 17) (j := 16) (d := 1) (by decide) (by decide) (by decide) (by decide)
    generalize w0.setCell ⟨w1.heap.size, 16, none⟩ (.int .i64 1) = W1 at I1
    have hd1 := hd.below I1.bel
    refine (cut_c hd1 (by omega)).mono ?_
    rintro e w2 ⟨v2, k, rfl, hk, hr2, hz, hn, rfl⟩
    have hr2 := hr2 _ hd1
    have hvk := val_cut hz
    have hw1 := RowK.own0 I1.own
    have hlk : (hs.take k).length ≤ wholeL.length := by rw [List.length_take]; exact Nat.le_trans (Nat.min_le_right _ _) (by rw [hl16]; decide)
    go_wp2_with fail
    refine (less_c hw1 hr2 whole_good (good_take hgd k) hlk (by rw [hvk]; exact hle) (by decide)).mono ?_
    rintro e w3 ⟨v3, rfl, ⟨zs, hz3, gz, nz, vz⟩, hb3⟩
    have lz : zs.length ≤ 1048576 := by
      rcases Nat.lt_or_ge 1048576 zs.length with h' | h'
      · have p1 := norm_low gz nz (by omega)
        have p2 := pw_mono (show 17 ≤ zs.length - 1 by omega)
        have p3 : pw 17 = 4294967296 * pw 16 := rfl
        have p4 := pw_pos 16
        rw [vz, hvk] at p1
        omega
      · exact h'
    go_wp2_with fail
    refine (made_c true hz3 gz lz).mono ?_
    rintro e w4 ⟨y, rfl, ⟨bb, ss, zz, rfl, hr, hy⟩, hb4⟩
    obtain ⟨sa, sc, rfl, hsl⟩ := hr.len
    have b2 := next2 (next2 (next2 b1 I1.bel) hb3) hb4
    obtain ⟨q1, q2, q3, q4⟩ := res2 b2
    have F := LongV.box2 ⟨bb, _, zz, rfl, hr, hy⟩ q1 q2 (.bool bb) (.slice sa zz.length sc)
    rw [vz, hvk, ← hw] at F
    have hB := below2 b2
    have hB : Below w.heap.size w ((w4.setCell ⟨w.heap.size + 1, 0, none⟩ (.bool bb)).setCell ⟨w.heap.size + 1, 1, none⟩ (.slice sa zz.length sc)) := (hB.setCell (by simp) _).setCell (by simp) _
    clear hw hd hgd hle hvk vz I1 I0 hlt
    go_wp2
    exact bodyPost_ret (v := .agg #[.bool bb, .slice sa zz.length sc]) (by simp [results, Tryz.results41, go_sem, q1, q2]) rfl ⟨_, rfl, F, hB⟩
end Go.Proofs.YtfeapgpjchjphaaGreat
namespace Go.Proofs.YtfeapgpjchjphaaGreat
open Go Go.RowKit Go.Big
attribute [local instance] noAv
def wpairs : Nat → List Int → List Int
  | 0, _ => []
  | n + 1, ds => (ds.getD 0 0 + 4294967296 * ds.getD 1 0) :: wpairs n (ds.drop 2)
theorem wpairs_len : ∀ n ds, (wpairs n ds).length = n
  | 0, _ => rfl
  | n + 1, ds => by simp [wpairs, wpairs_len n]
theorem wpairs_val : ∀ (n : Nat) (ds : List Int), ds.length ≤ 2 * n → wval (wpairs n ds) = val ds
  | 0, ds, h => by
    have e : ds = [] := List.eq_nil_of_length_eq_zero (by omega)
    rw [e]; rfl
  | n + 1, [], h => by
    have := wpairs_val n [] (by simp)
    simp [wpairs, wval, val] at this ⊢; omega
  | n + 1, [x], h => by
    have := wpairs_val n [] (by simp)
    simp [wpairs, wval, val] at this ⊢; omega
  | n + 1, x :: y :: ds, h => by
    have := wpairs_val n ds (by simp at h; omega)
    simp [wpairs, wval, val] at this ⊢; omega
theorem wpairs_good : ∀ (n : Nat) {ds : List Int}, good ds → wgood (wpairs n ds)
  | 0, ds, _ => fun x hx => by cases hx
  | n + 1, ds, h => fun x hx => by
    simp only [wpairs, List.mem_cons] at hx
    rcases hx with rfl | hx
    · have := good_getD h 0; have := good_getD h 1; omega
    · exact wpairs_good n (fun y hy => h y (List.mem_of_mem_drop hy)) x hx
theorem wpairs_get : ∀ (n : Nat) (ds : List Int) (j : Nat), j < n → (wpairs n ds).getD j 0 = ds.getD (2 * j) 0 + 4294967296 * ds.getD (2 * j + 1) 0
  | n + 1, ds, 0, _ => by simp [wpairs, List.getD]
  | n + 1, ds, j + 1, h => by
    have := wpairs_get n (ds.drop 2) j (by omega)
    simp only [wpairs, List.getD, List.getElem?_cons_succ] at this ⊢
    rw [this]
    simp only [List.getElem?_drop]
    rw [show 2 + 2 * j = 2 * (j + 1) by omega, show 2 + (2 * j + 1) = 2 * (j + 1) + 1 by omega]
/-- Word j when k digits are done. -/
def pairAt (ds : List Int) (k j : Nat) : Int := (if 2 * j < k then ds.getD (2 * j) 0 else 0) + 4294967296 * (if 2 * j + 1 < k then ds.getD (2 * j + 1) 0 else 0)
theorem pairAt_zero (ds : List Int) (j : Nat) : pairAt ds 0 j = 0 := by simp [pairAt]
theorem pairAt_end {ds : List Int} {k j : Nat} (h : ds.length ≤ k) : pairAt ds k j = ds.getD (2 * j) 0 + 4294967296 * ds.getD (2 * j + 1) 0 := by
  unfold pairAt
  congr 1
  · split
    · rfl
    · rw [getD_ge (by omega)]
  · congr 1
    split
    · rfl
    · rw [getD_ge (by omega)]
theorem pairAt_other {ds : List Int} {k j : Nat} (h : j ≠ k / 2) : pairAt ds (k + 1) j = pairAt ds k j := by
  unfold pairAt
  have e1 : (2 * j < k + 1) = (2 * j < k) := by apply propext; omega
  have e2 : (2 * j + 1 < k + 1) = (2 * j + 1 < k) := by apply propext; omega
  simp only [e1, e2]
theorem pairAt_even {ds : List Int} {q : Nat} : pairAt ds (2 * q) q = 0 ∧ pairAt ds (2 * q + 1) q = ds.getD (2 * q) 0 := by
  unfold pairAt
  constructor
  · rw [if_neg (by omega), if_neg (by omega)]; rfl
  · rw [if_pos (by omega), if_neg (by omega)]; omega
theorem pairAt_odd {ds : List Int} {q : Nat} : pairAt ds (2 * q + 1) q = ds.getD (2 * q) 0 ∧ pairAt ds (2 * q + 2) q = ds.getD (2 * q) 0 + 4294967296 * ds.getD (2 * q + 1) 0 := by
  unfold pairAt
  constructor
  · rw [if_pos (by omega), if_neg (by omega)]; omega
  · rw [if_pos (by omega), if_pos (by omega)]
end Go.Proofs.YtfeapgpjchjphaaGreat
namespace Go.Proofs.YtfeapgpjchjphaaGreat
open Go Go.RowKit Go.Big
attribute [local instance] noAv
def halfL : List Int := [0, 0, 0, 0, 0, 0, 0, 0, 0, 0, 0, 0, 0, 0, 0, 2147483648]
theorem half_val : val halfL = 6703903964971298549787012499102923063739682910296196688861780721860882015036773488400937149083451713845015929093243025426876941405973284973216824503042048 := by decide
theorem half_good : good halfL := by decide +kernel
theorem half_norm : norm halfL := fun _ => by decide
/-- Eight words and an error. -/
def wordsE (ws : List Int) (e : Int) : Value := .tuple #[.agg (ws.map (Value.int .u64)).toArray, .int .i64 e]
/-- z lies from -2^511 to 2^511 - 1. -/
def fits (z : Int) : Prop := -6703903964971298549787012499102923063739682910296196688861780721860882015036773488400937149083451713845015929093243025426876941405973284973216824503042048 ≤ z ∧ z < 6703903964971298549787012499102923063739682910296196688861780721860882015036773488400937149083451713845015929093243025426876941405973284973216824503042048
theorem below_set8 {n B : Nat} {w W : World} (hb : Below n w W) (h : n ≤ B) (u0 u1 u2 u3 u4 u5 u6 u7 : Value) :
    Below n w ((((((((W.setCell ⟨B, 0, none⟩ u0).setCell ⟨B, 1, none⟩ u1).setCell ⟨B, 2, none⟩ u2).setCell ⟨B, 3, none⟩ u3).setCell ⟨B, 4, none⟩ u4).setCell ⟨B, 5, none⟩ u5).setCell ⟨B, 6, none⟩ u6).setCell ⟨B, 7, none⟩ u7) :=
  (((((((hb.setCell h u0).setCell h u1).setCell h u2).setCell h u3).setCell h u4).setCell h u5).setCell h u6).setCell h u7
theorem size2 (w : World) (o1 o2 : Obj) : ((w.alloc o1).alloc o2).heap.size = w.heap.size + 1 + 1 := by simp
set_option maxHeartbeats 400000 in
set_option maxRecDepth 100000 in
theorem out_big {w : World} {u : Value} {z : Int} (h : LongV w u z) (hs : small z) (hz : ¬ fits z) : Calls Tryz.prog 36 #[u] w (Gets (fun _ r => r = wordsE [0, 0, 0, 0, 0, 0, 0, 0] 6) w) := by
  obtain ⟨b, s, xs, rfl, r1, g1, n1, z1, e1⟩ := h
  have l1 := small_len g1 n1 e1 hs
  have hbig : (b = false → val halfL ≤ val xs) ∧ (b = true → val halfL < val xs) := by
    rw [half_val]
    unfold fits at hz
    constructor <;> intro hb <;> subst hb
    · rw [sgz_f] at e1; have := val_bounds g1; omega
    · rw [sgz_t] at e1; have := val_bounds g1; omega
  obtain ⟨i0, hi, hz0, hz1, hz2⟩ := info_parts Tryz.info3
  obtain ⟨a, c, rfl, hc⟩ := r1.len
  have b0 := fun o1 o2 : Obj => Below.refl (w.heap.size + 1 + 1) ((w.alloc o1).alloc o2)
  clear e1 hz hs z1
  go_enter Tryz.func36, Tryz.ntmps36
  go_wp2_with (at_make; refine wpList_make_full _ rfl _ _ 45 rfl _ 3 i0 (.int .i64 0) 1 Tryz.underlying45 hi hz0 hz1 _ _ _ _ 16 rfl rfl rfl rfl (by rw [hz2]; decide) (by decide) (Nat.le_refl _) ?_; intro w0 hown0 hgrow0; have I0 := prodI_made hown0 hgrow0 15; have f15 := I0.fz 15; have k15 := I0.cell (j := 15) (by decide); have B0 := next2 (b0 _ _) I0.bel; have c1 := (cellOf (j := 1) ((B0.block w.heap.size (by omega)).trans (heap2 w _ _).1)).trans rfl; simp at f15 k15)
  have I1 := I0.set (m' := 16) (j := 15) (d := 2147483648) (by decide) (by decide) (by decide) (by decide)
  have B1 := next2 (b0 _ _) I1.bel
  have hh : RowK .i64 _ _ halfL := RowK.own0 I1.own
  rw [size2] at B1 hh
  have hx := r1.below (below2 B1)
  clear I1 I0 hown0 hgrow0
  refine (order_c hx hh g1 half_good n1 half_norm (by omega) (by decide)).mono ?_
  rintro e w2 ⟨x2, rfl, ⟨r, rfl, hr1, hr2⟩, hb2⟩
  have B2 := next2 B1 hb2
  have k0 := (B2.block w.heap.size (by omega)).trans (heap2 w _ _).1
  have k1 := (B2.block (w.heap.size + 1) (by omega)).trans (heap2 w _ _).2
  have c0 : w2.cell? ⟨w.heap.size, 0, none⟩ = some (.bool b) := (cellOf (j := 0) k0).trans rfl
  have z0 : ∀ j, j < 8 → w2.cell? ⟨w.heap.size + 1, j, none⟩ = some (.int .u64 0) := fun j hj => (cellOf (j := j) k1).trans (by match j, hj with | 0, _ => rfl | 1, _ => rfl | 2, _ => rfl | 3, _ => rfl | 4, _ => rfl | 5, _ => rfl | 6, _ => rfl | 7, _ => rfl)
  have y0 := z0 0 (by decide)
  have y1 := z0 1 (by decide)
  have y2 := z0 2 (by decide)
  have y3 := z0 3 (by decide)
  have y4 := z0 4 (by decide)
  have y5 := z0 5 (by decide)
  have y6 := z0 6 (by decide)
  have y7 := z0 7 (by decide)
  have fz : ∀ j, w2.frozen? ⟨w.heap.size + 1, j, none⟩ = false := fun j => frozenOf k1
  have hB := below2 B2
  obtain ⟨hbf, hbt⟩ := hbig
  have h0 : 0 ≤ r := by
    cases b with
    | false => have := hbf rfl; omega
    | true => have := hbt rfl; omega
  clear hx hh k0 k1 z0 r1
  by_cases hr : 0 < r
  · clear hbf hbt hr1 hr2
    go_wp2
    exact bodyPost_ret (v := wordsE [0, 0, 0, 0, 0, 0, 0, 0] 6) (by simp [results, Tryz.results36, go_sem, wordsE, y0, y1, y2, y3, y4, y5, y6, y7]) rfl ⟨_, rfl, rfl, below_set8 hB (Nat.le_succ _) _ _ _ _ _ _ _ _⟩
  · obtain rfl : r = 0 := by omega
    cases b with
    | true => exact absurd (hr2.2 (hbt rfl)) (by omega)
    | false =>
      clear hbf hbt hr1 hr2
      go_wp2
      exact bodyPost_ret (v := wordsE [0, 0, 0, 0, 0, 0, 0, 0] 6) (by simp [results, Tryz.results36, go_sem, wordsE, y0, y1, y2, y3, y4, y5, y6, y7]) rfl ⟨_, rfl, rfl, below_set8 hB (Nat.le_succ _) _ _ _ _ _ _ _ _⟩
end Go.Proofs.YtfeapgpjchjphaaGreat
