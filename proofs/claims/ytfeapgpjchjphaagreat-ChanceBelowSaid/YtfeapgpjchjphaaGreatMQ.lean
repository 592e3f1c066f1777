/-
  Contracts of the reference: Within.
-/
import Derived.Test.YtfeapgpjchjphaaGreatMN
import Derived.Deep.AppendLies
set_option linter.all false
namespace Go.Proofs.YtfeapgpjchjphaaGreat
open Go Go.RowKit Go.Big
theorem two_le {j : Nat} (h : j ≤ 512) : 0 < (2 : Int) ^ j ∧ (2 : Int) ^ j ≤ pw 16 := by
  have e : pw 16 = (2 : Int) ^ j * 2 ^ (512 - j) := by
    rw [← Int.pow_add, show j + (512 - j) = 256 + 256 by omega, Int.pow_add]
    decide
  have h1 : 0 < (2 : Int) ^ j := Int.pow_pos (by decide)
  have h2 : 0 < (2 : Int) ^ (512 - j) := Int.pow_pos (by decide)
  refine ⟨h1, ?_⟩
  have h3 := Int.mul_nonneg (Int.le_of_lt h1) (show (0 : Int) ≤ 2 ^ (512 - j) - 1 by omega)
  rw [Int.mul_sub, Int.mul_one, ← e] at h3
  omega
/-- The blocks of a slice that is the call's own. -/
@[reducible] def ownA (v : Value) : Av := ⟨fun g => v.ownBlock = some g⟩
theorem own_of_block {w w' : World} {base size n : Nat} {e : TypeId} {v : Value} {xs : List Value} (h : w.ownsRow base e size v n xs) (hk : ∀ g, base ≤ g → g < w.heap.size → w'.heap[g]? = w.heap[g]?) : w'.ownsRow base e size v n xs := by
  refine ⟨h.1, ?_⟩
  rcases h.2 with hn | ⟨g, cap, cur, hv, hb, hg, rest⟩
  · exact .inl hn
  · exact .inr ⟨g, cap, cur, hv, hb, (hk g hb (Array.getElem?_eq_some_iff.1 hg).1).trans hg, rest⟩
theorem long1_o {A : Nat → Prop} {w : World} (hA : ∀ g, A g → g < w.heap.size) (n : Int) (h0 : -9223372036854775808 ≤ n) (h1 : n ≤ 9223372036854775807) : Calls Tryz.prog 28 #[.int .i64 n] w (Gets (fun w' r => @LongV ⟨A⟩ w' r n) w) := @long1_c ⟨A⟩ w hA n h0 h1
theorem raised_o {A : Nat → Prop} {w : World} {u : Value} {x : Int} (h : @LongV ⟨A⟩ w u x) (n : Nat) (hn : n ≤ 600) (hx : small x) (hs : ∀ k, k ≤ n → small (x ^ k)) : Calls Tryz.prog 27 #[u, .int .i64 n] w (Gets (fun w' r => @LongV ⟨A⟩ w' r (x ^ n)) w) := @raised_c ⟨A⟩ w u x h n hn hx hs
theorem plus_o {A : Nat → Prop} {w : World} {u v : Value} {x y : Int} (h1 : @LongV ⟨A⟩ w u x) (h2 : @LongV ⟨A⟩ w v y) (k1 : small x) (k2 : small y) : Calls Tryz.prog 33 #[u, v] w (Gets (fun w' r => @LongV ⟨A⟩ w' r (x + y)) w) := @plus_c ⟨A⟩ w u v x y h1 h2 k1 k2
theorem below_o {A : Nat → Prop} {w w' : World} {u : Value} {x : Int} (h : @LongV ⟨A⟩ w u x) (hb : Below w.heap.size w w') : @LongV ⟨A⟩ w' u x := @LongV.below ⟨A⟩ _ _ _ _ h hb
theorem len_o {A : Nat → Prop} {k : IntKind} {w : World} {v : Value} {xs : List Int} (h : @RowK ⟨A⟩ k w v xs) : ∃ a c, v = .slice a xs.length c ∧ xs.length ≤ c := @RowK.len ⟨A⟩ _ _ _ _ h
theorem at_below_o {A : Nat → Prop} {W W' : World} {B : Nat} {z : Int} (h : @LongAt ⟨A⟩ W B z) (hb : Below W.heap.size W W') : @LongAt ⟨A⟩ W' B z := @LongAt.below ⟨A⟩ _ _ _ _ h hb
theorem at_store_o {A : Nat → Prop} {W : World} {B : Nat} {z z' : Int} (h : @LongAt ⟨A⟩ W B z) {bb : Bool} {sa : Option Addr} {n sc : Nat} (hv : @LongV ⟨A⟩ W (.agg #[.bool bb, .slice sa n sc]) z') :
    @LongAt ⟨A⟩ ((W.setCell ⟨B, 0, none⟩ (.bool bb)).setCell ⟨B, 1, none⟩ (.slice sa n sc)) B z' := @LongAt.store ⟨A⟩ _ _ _ _ h _ _ _ _ hv
structure WithI (w : World) (o1 o2 : Obj) (k : Nat) (xs : List Int) (z : Int) (seen : Value) (wr : World) : Prop where
  k6 : k ≤ 6
  kn : xs.length ≤ k
  own : wr.ownsRow (w.heap.size + 1 + 1 + 1) 3 1 seen xs.length (xs.map (Value.int .i64))
  var : @LongAt (ownA seen) wr (w.heap.size + 1 + 1) z
  z0 : 0 ≤ z
  z1 : z ≤ k * pw 16
  bel : Below (w.heap.size + 1 + 1) ((w.alloc o1).alloc o2) wr
def WithRel (w : World) (o1 o2 : Obj) (seen i : Value) (wr : World) : Prop :=
  ∃ (k : Nat) (xs : List Int) (z : Int), i = .int .i64 k ∧ WithI w o1 o2 k xs z seen wr
theorem withI_new (w : World) (o1 o2 : Obj) : WithI w o1 o2 0 [] 0 (.slice none 0 0) (((w.alloc o1).alloc o2).alloc (.cells #[.bool false, .slice none 0 0] 69)) := by
  have hz : @LongV (ownA (.slice none 0 0)) ((w.alloc o1).alloc o2) (.agg #[.bool false, .slice none 0 0]) 0 :=
    ⟨false, _, [], rfl, @RowK.nil (ownA (.slice none 0 0)) _ _ (fun g (h : (none : Option Nat) = some g) => by cases h), good_nil, (fun h => absurd h (Nat.lt_irrefl _)), (fun h => absurd h (by decide)), rfl⟩
  have h := @LongAt.new (ownA (.slice none 0 0)) _ _ _ _ _ _ hz 69
  have e : ((w.alloc o1).alloc o2).heap.size = w.heap.size + 1 + 1 := by simp
  rw [e] at h
  exact ⟨Nat.zero_le _, Nat.le_refl _, World.ownsRow_nil _ _ _ _, h, Int.le_refl _, by rw [show ((0 : Nat) : Int) = 0 from rfl, Int.zero_mul]; exact Int.le_refl _, (Below.refl _ _).alloc (by rw [e]; exact Nat.le_refl _) _⟩
theorem WithI.next {w wr : World} {o1 o2 : Obj} {k : Nat} {xs : List Int} {z : Int} {seen : Value} (h : WithI w o1 o2 k xs z seen wr) (h6 : k < 6) : WithI w o1 o2 (k + 1) xs z seen wr :=
  ⟨h6, Nat.le_succ_of_le h.kn, h.own, h.var, h.z0, by have := h.z1; have := pw_pos 16; rw [show ((k + 1 : Nat) : Int) = k + 1 by omega, Int.add_mul]; omega, h.bel⟩
/-- A power is added, and its exponent is kept. -/
theorem WithI.added {w wr W3 W5 : World} {o1 o2 o : Obj} {k j g cap : Nat} {xs : List Int} {z : Int} {seen : Value} (h : WithI w o1 o2 k xs z seen wr) (h6 : k < 6) (hj : j ≤ 512)
    (hb3 : Below (w.heap.size + 1 + 1) wr W3) (hat : @LongAt (ownA seen) W3 (w.heap.size + 1 + 1) (z + 2 ^ j))
    (hg : (W3.alloc o).grownBy W5 seen.ownBlock) (hown : W5.ownsRow (w.heap.size + 1 + 1 + 1) 3 1 (.slice (some ⟨g, 0, none⟩) (xs.length + 1) cap) (xs.length + 1) (xs.map (Value.int .i64) ++ [.int .i64 j]))
    (hw : seen.ownBlock = some g ∨ g = W3.heap.size + 1) (hlt : g < W5.heap.size) : WithI w o1 o2 (k + 1) (xs ++ [(j : Int)]) (z + 2 ^ j) (.slice (some ⟨g, 0, none⟩) (xs.length + 1) cap) W5 := by
  have hbase := own_base h.own
  have hB := h.bel.size
  simp at hB
  have hsz : W3.heap.size ≤ W5.heap.size := by have := hg.size; simp at this; omega
  have hblk : ∀ b, ¬ seen.ownBlock = some b → b < W3.heap.size → W5.heap[b]? = W3.heap[b]? := fun b hb hlt' =>
    (hg.block b (by simp; omega) (fun e => hb e.symm)).trans (Below.heap_alloc W3 o b hlt')
  have hnB : ∀ b, b ≤ w.heap.size + 1 + 1 → ¬ seen.ownBlock = some b := fun b hb e => by have := hbase b e; omega
  have hvar := h.var
  have hBlt : w.heap.size + 1 + 1 < W3.heap.size := by obtain ⟨_, _, _, _, _, _, _, _, hl, _⟩ := hat; exact hl
  refine ⟨h6, by have := h.kn; simp; omega, by simpa using hown, ?_, ?_, ?_, ?_⟩
  · refine LongAt.move hat hsz (hblk _ (hnB _ (Nat.le_refl _)) hBlt) hblk ?_ ?_
    · intro g' hg'
      simp [Value.ownBlock] at hg'; omega
    · intro b hb hn hg'
      simp [Value.ownBlock] at hg'
      subst hg'
      rcases hw with hw | hw
      · exact hn hw
      · omega
  · have := (two_le hj).1; have := h.z0; omega
  · have h1 := (two_le hj).2; have h2 := h.z1; rw [show ((k + 1 : Nat) : Int) = k + 1 by omega, Int.add_mul]; omega
  · have h3 := hb3.size
    exact ((h.bel.trans hb3).alloc (by omega) o).grown hg (by simp; omega) (fun g' hg' => by have := hbase g' hg'; omega)
attribute [local instance] noAv
theorem small_z {k : Nat} {z : Int} (h6 : k ≤ 6) (h1 : z ≤ k * pw 16) : z ≤ 6 * pw 16 := by
  have h2 := pw_pos 16
  have h3 := Int.mul_le_mul_of_nonneg_right (show (k : Int) ≤ 6 by omega) (Int.le_of_lt h2)
  omega
theorem small_near {z : Int} (h0 : - 4294967296 < z) (h1 : z ≤ 7 * pw 16) : small z := by
  have h2 : pw 64 = pw 16 * pw 48 := pw_add 16 48
  have h3 := pw_pos 16
  have h4 : 4294967296 ≤ pw 48 := by decide
  have h5 := Int.mul_le_mul_of_nonneg_left h4 (Int.le_of_lt h3)
  unfold small
  omega
/-- The answer is a wide integer. -/
def AnyW (r : Value) : Prop := ∃ x, fit x ∧ r = W x
theorem res_words (z : Int) : ∃ x e, fit x ∧ resV z (fit z) = .tuple #[W x, .int .i64 e] := by
  unfold resV
  split
  · exact ⟨z, 0, ‹_›, rfl⟩
  · exact ⟨0, 6, by unfold fit P511; omega, rfl⟩
theorem getD_mem {xs : List Int} {k : Nat} (h : k < xs.length) : xs.getD k 0 ∈ xs := by
  simp [List.getD, h]
set_option maxHeartbeats 1600000 in
set_option maxRecDepth 100000 in
theorem within_c {w : World} {bv : Value} {b : Bool} {l : Int} {bits : List Int} (lim : Int) (hlim : lim = 511 ∨ lim = 256 ∨ lim = 130) (hbits : @RowK noAv .u16 w bv bits) (hu : ∀ x ∈ bits, 0 ≤ x ∧ x < 65536) (hbl : bits.length ≤ 9223372036854775807) (hl0 : 0 ≤ l) (hl1 : l < 4294967296) :
    Calls Tryz.prog 9 #[.agg #[.bool b, bv, .int .u32 l], .int .i64 lim] w (Gets (fun _ r => AnyW r) w) := by
  obtain ⟨i0, hi, hz0, hz1, hz2⟩ := info_parts Tryz.info3
  obtain ⟨ba, bc, rfl, hbc⟩ := hbits.len
  have hn0 : lim ≠ 0 := by omega
  have b0 := withI_new w (.cells #[.bool b, .slice ba bits.length bc, .int .u32 l] 30) (.cells #[.int .u64 0, .int .u64 0, .int .u64 0, .int .u64 0, .int .u64 0, .int .u64 0, .int .u64 0, .int .u64 0] 26)
  go_enter Tryz.func9, Tryz.ntmps9
  go_wp2
  go_loopw [6, 7] (WithRel w (.cells #[.bool b, .slice ba bits.length bc, .int .u32 l] 30) (.cells #[.int .u64 0, .int .u64 0, .int .u64 0, .int .u64 0, .int .u64 0, .int .u64 0, .int .u64 0, .int .u64 0] 26)) (fun _ i _ => 6 - (intOf i).toNat)
  case atStart => exact ⟨0, [], 0, rfl, b0⟩
  case round =>
    obtain ⟨k, xs, z, rfl, I⟩ := hrel
    have k0 := (I.bel.block w.heap.size (by omega)).trans (heap2 w _ _).1
    have k1 := (I.bel.block (w.heap.size + 1) (by omega)).trans (heap2 w _ _).2
    have c0 : wr.cell? ⟨w.heap.size, 0, none⟩ = some (.bool b) := (cellOf (j := 0) k0).trans rfl
    have c1 : wr.cell? ⟨w.heap.size, 1, none⟩ = some (.slice ba bits.length bc) := (cellOf (j := 1) k0).trans rfl
    have c2 : wr.cell? ⟨w.heap.size, 2, none⟩ = some (.int .u32 l) := (cellOf (j := 2) k0).trans rfl
    have hk6 := I.k6
    have hz6 := small_z hk6 I.z1
    have hz0' := I.z0
    have hpw := pw_pos 16
    have hsmz : small z := small_near (by omega) (by omega)
    have D0 : Below wr.heap.size wr wr.drew := (Below.refl _ _).drew
    have hsz := I.bel.size
    simp at hsz
    by_cases hk : k < bits.length ∧ k < 6
    · obtain ⟨hk, h6⟩ := hk
      have hbw := hbits.below (below2 I.bel)
      obtain ⟨b', o', rfl, hb', hx⟩ := hbw.cell (j := k) hk
      have hxr := hu _ (getD_mem hk)
      generalize bits.getD k 0 = x at *
      obtain ⟨j, hj⟩ := Int.eq_ofNat_of_zero_le (show 0 ≤ x % lim from Int.emod_nonneg _ hn0)
      have hjl : j ≤ 512 := by have := Int.emod_lt_of_pos x (show 0 < lim by omega); omega
      have e1 : IntKind.i64.wrap x = x := IntWalk.i64_in _ (by omega)
      have e2 : IntKind.i64.wrap (x.tmod lim) = (j : Int) := by
        rw [Int.tmod_eq_emod_of_nonneg hxr.1, hj]; exact IntWalk.i64_in _ (by omega)
      have hown := RowK.own0 I.own
      obtain ⟨sa, sc, rfl, hsc⟩ := hown.len
      have hkn := I.kn
      go_wp2
      go_loop [9, 10] (fun u i => ∃ (β : Bool) (q : Nat), u = .bool β ∧ i = .int .i64 q ∧ q ≤ xs.length) (fun _ i => xs.length - (intOf i).toNat)
      case atStart => exact ⟨false, 0, rfl, rfl, Nat.zero_le _⟩
      case round =>
        obtain ⟨β, q, rfl, rfl, hq⟩ := hrel
        by_cases hql : q < xs.length
        · obtain ⟨g', o'', rfl, hg', hc'⟩ := hown.cell hql
          generalize xs.getD q 0 = y at hc'
          cases β with
          | true =>
            go_wp2
            go_round
            case rel => exact ⟨_, q + 1, rfl, rfl, by omega⟩
            case measure => simp [intOf]; omega
          | false =>
            go_wp2
            go_round
            case rel => exact ⟨_, q + 1, rfl, rfl, by omega⟩
            case measure => simp [intOf]; omega
        · obtain rfl : q = xs.length := by omega
          cases β with
          | true =>
            go_wp2
            go_roundw
            case rel => exact ⟨k + 1, xs, z, rfl, I.next h6⟩
            case measure => simp [intOf]; omega
          | false =>
            have hvar := I.var
            obtain ⟨bb, va, vn, vc, g0, g1, f0, f1, hBl, hv⟩ := hvar
            have hav : ∀ g, @Av.A (ownA (.slice sa xs.length sc)) g → g < wr.drew.heap.size := @LongV.av (ownA (.slice sa xs.length sc)) _ _ _ hv
            go_wp2
            go_region_with (first | (go_at_call 28; (with_reducible refine (long1_o hav 2 (by omega) (by omega)).mono ?_); rintro e w1 ⟨d1, rfl, hd1, hb1⟩; have B1 := D0.trans hb1; obtain ⟨q11, q12⟩ := And.intro ((B1.cell (p := ⟨w.heap.size + 1 + 1, 0, none⟩) hBl).trans g0) ((B1.cell (p := ⟨w.heap.size + 1 + 1, 1, none⟩) hBl).trans g1)) | (go_at_call 27; (with_reducible refine (raised_o hd1 j (by omega) (small_near (by omega) (by omega)) (fun k' hk' => small_near (by have := (two_le (j := k') (by omega)).1; omega) (by have := (two_le (j := k') (by omega)).2; omega))).mono ?_); rintro e w2 ⟨d2, rfl, hd2, hb2⟩; have B2 := B1.trans (hb2.mono B1.size); obtain ⟨q21, q22⟩ := And.intro ((B2.cell (p := ⟨w.heap.size + 1 + 1, 0, none⟩) hBl).trans g0) ((B2.cell (p := ⟨w.heap.size + 1 + 1, 1, none⟩) hBl).trans g1)) | (go_at_call 33; have P3 := plus_o (below_o hv B2) hd2 hsmz (small_near (by have := (two_le hjl).1; omega) (by have := (two_le hjl).2; omega)); (with_reducible refine P3.mono ?_); clear P3; rintro e w3 ⟨d3, rfl, hd3, hb3⟩; have B3 := B2.trans (hb3.mono B2.size); have hat3 := at_below_o I.var B3; have hat3' := hat3; obtain ⟨_, _, _, _, z1, z2, z3, z4, _, _⟩ := hat3'; have hd3' := hd3; obtain ⟨bb3, s3, zs3, rfl, hr3, -⟩ := hd3'; obtain ⟨sa3, sc3, rfl, -⟩ := (len_o hr3)))
            all_goals
              have hat4 := at_store_o hat3 hd3
              have O4 := own_of_block I.own (w' := (w3.setCell ⟨w.heap.size + 1 + 1, 0, none⟩ (.bool bb3)).setCell ⟨w.heap.size + 1 + 1, 1, none⟩ (.slice sa3 zs3.length sc3)) (fun g hg hl => ((Below.heap_setCell _ _ _ _ (by simp; omega)).trans (Below.heap_setCell _ _ _ _ (by simp; omega))).trans (B3.block g hl))
              have B4 : Below (w.heap.size + 1 + 1) wr ((w3.setCell ⟨w.heap.size + 1 + 1, 0, none⟩ (.bool bb3)).setCell ⟨w.heap.size + 1 + 1, 1, none⟩ (.slice sa3 zs3.length sc3)) := ((B3.mono (by omega)).setCell (by simp) _).setCell (by simp) _
              have A4 := fun g cap (W5 : World) (o : Obj) hg hown hw hlt => WithI.added (W5 := W5) (o := o) (g := g) (cap := cap) I h6 hjl B4 hat4 hg hown hw hlt
              generalize (w3.setCell ⟨w.heap.size + 1 + 1, 0, none⟩ (.bool bb3)).setCell ⟨w.heap.size + 1 + 1, 1, none⟩ (.slice sa3 zs3.length sc3) = W4 at *
              have hsz4 := B4.size
              clear z1 z2 z3 z4 hr3 hd3 hat3 hat4 hd2 hd1 hv
              go_wp2_with (at_builtin; refine wpList_append_lies _ rfl _ _ 45 rfl (w.heap.size + 1 + 1 + 1) 3 i0 (.int .i64 0) 1 8 Tryz.underlying45 hi hz0 hz1 hz2 rfl (by decide) _ _ _ rfl (O4.alloc _) ⟨W4.heap.size, 0, none⟩ 1 1 [.int .i64 j] rfl rfl (cell1 _ _ _) one1 (by decide) (by unfold maxLen; omega) (by omega) (by simp; omega) (W4.heap.size + 1) (by simp) ?_; intro g cap w5 hown' hgrow5 hat5 hlt5)
              go_roundw
              case rel => exact ⟨k + 1, _, _, rfl, A4 _ _ _ _ hgrow5 hown' hat5 hlt5⟩
              case measure => simp [intOf]; omega
    · have hcond : (k < bits.length ∧ ¬ k < 6) ∨ ¬ k < bits.length := by omega
      have V : @LongAt noAv wr (w.heap.size + 1 + 1) z := LongAt.move I.var (Nat.le_refl _) rfl (fun _ _ _ => rfl) (fun _ h => h.elim) (fun _ _ _ h => h.elim)
      have V' := V
      obtain ⟨bb, va, vn, vc, g0, g1, f0, f1, hBl, hv⟩ := V'
      have e3 : IntKind.i64.wrap (l.tmod 4) = l % 4 := by
        rw [Int.tmod_eq_emod_of_nonneg hl0]; exact IntWalk.i64_in _ (by omega)
      have hl4 : 0 ≤ l % 4 ∧ l % 4 < 4 := by omega
      have hsm4 : small (l % 4) := small_near (by omega) (by omega)
      have hsmd : small (z - l % 4) := small_near (by omega) (by omega)
      rcases hcond with ⟨h1, h2⟩ | h1
      all_goals
        go_wp2
        go_region_with (first | (go_at_call 34; (with_reducible refine (minus_c (hv.below B1) hd1 hsmz hsm4).mono ?_); rintro e w2 ⟨d2, rfl, hd2, hb2⟩; have B2 := B1.trans (hb2.mono B1.size); have hat2 := V.below B2; have hat2' := hat2; obtain ⟨_, _, _, _, z1, z2, z3, z4, _, _⟩ := hat2'; have hd2' := hd2; obtain ⟨bb2, s2, zs2, rfl, hr2, -⟩ := hd2'; obtain ⟨sa2, sc2, rfl, -⟩ := hr2.len) | (go_at_call 28; (with_reducible refine (long1_0 _ (by omega) (by omega)).mono ?_); rintro e w1 ⟨d1, rfl, hd1, hb1⟩; have B1 := D0.trans hb1; obtain ⟨q11, q12, q13⟩ := And.intro ((B1.cell (p := ⟨w.heap.size + 1 + 1, 0, none⟩) hBl).trans g0) (And.intro ((B1.cell (p := ⟨w.heap.size + 1 + 1, 1, none⟩) hBl).trans g1) ((B1.cell (p := ⟨w.heap.size, 2, none⟩) (show w.heap.size < wr.heap.size by omega)).trans c2))))
        all_goals
          have hat3 := hat2.store hd2
          have B3 : Below (w.heap.size + 1 + 1) wr ((w2.setCell ⟨w.heap.size + 1 + 1, 0, none⟩ (.bool bb2)).setCell ⟨w.heap.size + 1 + 1, 1, none⟩ (.slice sa2 zs2.length sc2)) := ((B2.mono (by omega)).setCell (by simp) _).setCell (by simp) _
          generalize (w2.setCell ⟨w.heap.size + 1 + 1, 0, none⟩ (.bool bb2)).setCell ⟨w.heap.size + 1 + 1, 1, none⟩ (.slice sa2 zs2.length sc2) = W3 at *
          have q0 : W3.cell? ⟨w.heap.size, 0, none⟩ = some (.bool b) := (B3.cell (by simp; omega)).trans c0
          have k3 := (B3.block (w.heap.size + 1) (by omega)).trans k1
          clear z1 z2 z3 z4 hr2 hd2 hat2 hd1 hv g0 g1 c0 c1 c2
          have hat3' := hat3
          obtain ⟨tb, ta, tn, tc, t0, t1, tf0, tf1, tl, tv⟩ := hat3'
          cases b with
          | false =>
            go_wp2_with fail
            with_reducible refine (out_W tv hsmd).mono ?_
            rintro e w6 ⟨r, rfl, rfl, hb6⟩
            obtain ⟨x6, e6, hx6, hres⟩ := res_words (z - l % 4)
            obtain ⟨a0, a1, a2, a3, a4, a5, a6, a7, -, -, he⟩ := words_of hx6
            rw [hres, he]
            have B6 : Below (w.heap.size + 1 + 1) wr w6 := B3.trans (hb6.mono (by omega))
            have k6 := (B6.block (w.heap.size + 1) (by omega)).trans k1
            have y0 : w6.cell? ⟨w.heap.size + 1, 0, none⟩ = some (.int .u64 0) := (cellOf (j := 0) k6).trans rfl
            have y1 : w6.cell? ⟨w.heap.size + 1, 1, none⟩ = some (.int .u64 0) := (cellOf (j := 1) k6).trans rfl
            have y2 : w6.cell? ⟨w.heap.size + 1, 2, none⟩ = some (.int .u64 0) := (cellOf (j := 2) k6).trans rfl
            have y3 : w6.cell? ⟨w.heap.size + 1, 3, none⟩ = some (.int .u64 0) := (cellOf (j := 3) k6).trans rfl
            have y4 : w6.cell? ⟨w.heap.size + 1, 4, none⟩ = some (.int .u64 0) := (cellOf (j := 4) k6).trans rfl
            have y5 : w6.cell? ⟨w.heap.size + 1, 5, none⟩ = some (.int .u64 0) := (cellOf (j := 5) k6).trans rfl
            have y6 : w6.cell? ⟨w.heap.size + 1, 6, none⟩ = some (.int .u64 0) := (cellOf (j := 6) k6).trans rfl
            have y7 : w6.cell? ⟨w.heap.size + 1, 7, none⟩ = some (.int .u64 0) := (cellOf (j := 7) k6).trans rfl
            have fz : ∀ j, w6.frozen? ⟨w.heap.size + 1, j, none⟩ = false := fun j => frozenOf k6
            have hB : Below w.heap.size w w6 := (below2 I.bel).trans (B6.mono (by omega))
            have hsz6 : w.heap.size + 1 < w6.heap.size := by have := B6.size; omega
            clear hat3 tv hb6 k6 k3 k0 k1 V I B6 B3 D0 hres
            go_wp2
            exact bodyPost_ret (v := .agg #[.int .u64 a0, .int .u64 a1, .int .u64 a2, .int .u64 a3, .int .u64 a4, .int .u64 a5, .int .u64 a6, .int .u64 a7]) (by simp [results, Tryz.results9, go_sem, y0, y1, y2, y3, y4, y5, y6, y7, hsz6]) rfl ⟨_, rfl, ⟨x6, hx6, he.symm⟩, (below_set8 hB (by omega) _ _ _ _ _ _ _ _).alloc (by simpa using hB.size) _⟩
          | true =>
            go_wp2_with fail
            with_reducible refine (turn_c tv hsmd).mono ?_
            rintro e w5 ⟨d5, rfl, hd5, hb5⟩
            have hat5 := hat3.below hb5
            have hat5' := hat5
            obtain ⟨_, _, _, _, z1, z2, z3, z4, _, _⟩ := hat5'
            have hd5' := hd5
            obtain ⟨bb5, s5, zs5, rfl, hr5, -⟩ := hd5'
            obtain ⟨sa5, sc5, rfl, -⟩ := hr5.len
            have uv := hd5.box2 z1 z2 (.bool bb5) (.slice sa5 zs5.length sc5)
            have B5 : Below (w.heap.size + 1 + 1) wr ((w5.setCell ⟨w.heap.size + 1 + 1, 0, none⟩ (.bool bb5)).setCell ⟨w.heap.size + 1 + 1, 1, none⟩ (.slice sa5 zs5.length sc5)) := ((B3.trans (hb5.mono (by omega))).setCell (by simp) _).setCell (by simp) _
            clear hr5 hd5 tv hat5 hat3
            go_wp2_with fail
            generalize (w5.setCell ⟨w.heap.size + 1 + 1, 0, none⟩ (.bool bb5)).setCell ⟨w.heap.size + 1 + 1, 1, none⟩ (.slice sa5 zs5.length sc5) = W5 at *
            have hs5 := B5.size
            with_reducible refine (out_W uv (small_neg hsmd)).mono ?_
            rintro e w6 ⟨r, rfl, rfl, hb6⟩
            obtain ⟨x6, e6, hx6, hres⟩ := res_words (- (z - l % 4))
            obtain ⟨a0, a1, a2, a3, a4, a5, a6, a7, -, -, he⟩ := words_of hx6
            rw [hres, he]
            have B6 : Below (w.heap.size + 1 + 1) wr w6 := B5.trans (hb6.mono (by omega))
            have k6 := (B6.block (w.heap.size + 1) (by omega)).trans k1
            have y0 : w6.cell? ⟨w.heap.size + 1, 0, none⟩ = some (.int .u64 0) := (cellOf (j := 0) k6).trans rfl
            have y1 : w6.cell? ⟨w.heap.size + 1, 1, none⟩ = some (.int .u64 0) := (cellOf (j := 1) k6).trans rfl
            have y2 : w6.cell? ⟨w.heap.size + 1, 2, none⟩ = some (.int .u64 0) := (cellOf (j := 2) k6).trans rfl
            have y3 : w6.cell? ⟨w.heap.size + 1, 3, none⟩ = some (.int .u64 0) := (cellOf (j := 3) k6).trans rfl
            have y4 : w6.cell? ⟨w.heap.size + 1, 4, none⟩ = some (.int .u64 0) := (cellOf (j := 4) k6).trans rfl
            have y5 : w6.cell? ⟨w.heap.size + 1, 5, none⟩ = some (.int .u64 0) := (cellOf (j := 5) k6).trans rfl
            have y6 : w6.cell? ⟨w.heap.size + 1, 6, none⟩ = some (.int .u64 0) := (cellOf (j := 6) k6).trans rfl
            have y7 : w6.cell? ⟨w.heap.size + 1, 7, none⟩ = some (.int .u64 0) := (cellOf (j := 7) k6).trans rfl
            have fz : ∀ j, w6.frozen? ⟨w.heap.size + 1, j, none⟩ = false := fun j => frozenOf k6
            have hB : Below w.heap.size w w6 := (below2 I.bel).trans (B6.mono (by omega))
            have hsz6 : w.heap.size + 1 < w6.heap.size := by have := B6.size; omega
            clear uv hb6 k6 k3 k0 k1 V I B6 B5 B3 D0 hres
            go_wp2
            exact bodyPost_ret (v := .agg #[.int .u64 a0, .int .u64 a1, .int .u64 a2, .int .u64 a3, .int .u64 a4, .int .u64 a5, .int .u64 a6, .int .u64 a7]) (by simp [results, Tryz.results9, go_sem, y0, y1, y2, y3, y4, y5, y6, y7, hsz6]) rfl ⟨_, rfl, ⟨x6, hx6, he.symm⟩, (below_set8 hB (by omega) _ _ _ _ _ _ _ _).alloc (by simpa using hB.size) _⟩
end Go.Proofs.YtfeapgpjchjphaaGreat
