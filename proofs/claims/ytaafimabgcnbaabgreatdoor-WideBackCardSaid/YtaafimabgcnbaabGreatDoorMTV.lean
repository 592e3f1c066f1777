/-
  A text of an integer is its decimal numeral, and no other.
-/
import Derived.Test.YtaafimabgcnbaabGreatDoorMT3
set_option linter.all false
namespace Go.Proofs.YtaafimabgcnbaabGreatDoor
open Go Go.Rx Go.RowKit Go.Big
/-- What octets that are digits stand for. -/
def numL (l : List UInt8) : Nat := l.foldl (fun n c => n * 10 + (c.toNat - 48)) 0
theorem numL_snoc (l : List UInt8) (c : UInt8) : numL (l ++ [c]) = numL l * 10 + (c.toNat - 48) := by
  unfold numL; rw [List.foldl_append]; rfl
def digL (l : List UInt8) : Prop := ∀ c ∈ l, 48 ≤ c.toNat ∧ c.toNat ≤ 57
theorem dig_list {l : List UInt8} : digFrom ⟨l.toArray⟩ 0 ↔ digL l := by
  have hs := size_mk l
  constructor
  · intro h c hc
    obtain ⟨j, hj, rfl⟩ := List.getElem_of_mem hc
    exact h j (by omega) (Nat.zero_le _)
  · intro h j hj _
    exact h _ (List.getElem_mem (by omega))
theorem num_take {l : List UInt8} (hd : digL l) : ∀ k, k ≤ l.length → numV ⟨l.toArray⟩ k = numL (l.take k)
  | 0, _ => rfl
  | k + 1, h => by
    have hk : k < (⟨l.toArray⟩ : ByteArray).size := by rw [size_mk]; omega
    rw [numV_step (dig_list.2 hd) hk, num_take hd k (by omega), List.take_succ_eq_append_getElem (by omega : k < l.length), numL_snoc]
    rfl
theorem num_list {l : List UInt8} (hd : digL l) : numV ⟨l.toArray⟩ (⟨l.toArray⟩ : ByteArray).size = numL l := by
  rw [num_take hd _ (by rw [size_mk]; exact Nat.le_refl _), size_mk, List.take_length]
theorem ofNat_digit {x : Nat} (h : x < 10) : (UInt8.ofNat (48 + x)).toNat = 48 + x := by
  rw [UInt8.toNat_ofNat']; omega
theorem dec_dig (u : Nat) : digL (Lib.decDigits u) := by
  induction u using Nat.strongRecOn with
  | _ u ih =>
    by_cases h : u < 10
    · rw [Lib.decDigits_one h]
      intro c hc
      rw [List.mem_singleton] at hc
      subst hc
      rw [ofNat_digit h]; omega
    · rw [Lib.decDigits, dif_neg h]
      intro c hc
      rcases List.mem_append.1 hc with hc | hc
      · exact ih (u / 10) (by omega) c hc
      · rw [List.mem_singleton] at hc
        subst hc
        rw [ofNat_digit (Nat.mod_lt _ (by decide))]; omega
theorem num_dec (u : Nat) : numL (Lib.decDigits u) = u := by
  induction u using Nat.strongRecOn with
  | _ u ih =>
    by_cases h : u < 10
    · rw [Lib.decDigits_one h]
      show 0 * 10 + ((UInt8.ofNat (48 + u)).toNat - 48) = u
      rw [ofNat_digit h]; omega
    · rw [Lib.decDigits, dif_neg h, numL_snoc, ih (u / 10) (by omega), ofNat_digit (Nat.mod_lt _ (by decide))]
      omega
theorem dec_head (u : Nat) (h0 : 0 < u) : ∃ c t, Lib.decDigits u = c :: t ∧ c.toNat ≠ 48 := by
  induction u using Nat.strongRecOn with
  | _ u ih =>
    by_cases h : u < 10
    · refine ⟨_, [], Lib.decDigits_one h, ?_⟩
      rw [ofNat_digit h]; omega
    · obtain ⟨c, t, e, hc⟩ := ih (u / 10) (by omega) (by omega)
      refine ⟨c, t ++ [UInt8.ofNat (48 + u % 10)], ?_, hc⟩
      rw [Lib.decDigits, dif_neg h, e]; rfl
theorem byte_of {c : UInt8} (h : 48 ≤ c.toNat ∧ c.toNat ≤ 57) : UInt8.ofNat (48 + (c.toNat - 48)) = c := by
  apply UInt8.toNat_inj.1
  rw [ofNat_digit (by omega)]; omega
theorem num_pos (c : UInt8) (hc : 48 ≤ c.toNat ∧ c.toNat ≤ 57) (h8 : c.toNat ≠ 48) : ∀ n (l : List UInt8), l.length = n → 0 < numL (c :: l)
  | 0, l, h => by
    rw [List.eq_nil_of_length_eq_zero h]
    show 0 < 0 * 10 + (c.toNat - 48)
    omega
  | n + 1, l, h => by
    rcases List.eq_nil_or_concat l with rfl | ⟨l', d, rfl⟩
    · cases h
    · rw [List.concat_eq_append, ← List.cons_append, numL_snoc]
      have := num_pos c hc h8 n l' (by simpa using h)
      omega
theorem dec_num (c : UInt8) (hc : 48 ≤ c.toNat ∧ c.toNat ≤ 57) : ∀ n (l : List UInt8), l.length = n → digL l → (c.toNat ≠ 48 ∨ l = []) → Lib.decDigits (numL (c :: l)) = c :: l
  | 0, l, h, _, _ => by
    rw [List.eq_nil_of_length_eq_zero h]
    have e : numL [c] = c.toNat - 48 := by show 0 * 10 + (c.toNat - 48) = _; omega
    rw [e, Lib.decDigits_one (by omega), byte_of hc]
  | n + 1, l, h, hd, h8 => by
    rcases List.eq_nil_or_concat l with rfl | ⟨l', d, rfl⟩
    · cases h
    · rw [List.concat_eq_append] at *
      have hc8 : c.toNat ≠ 48 := by
        rcases h8 with h8 | h8
        · exact h8
        · simp at h8
      have hl : l'.length = n := by simpa using h
      have hdd : 48 ≤ d.toNat ∧ d.toNat ≤ 57 := hd d (by simp)
      have hp := num_pos c hc hc8 n l' hl
      have ih := dec_num c hc n l' hl (fun x hx => hd x (by simp [hx])) (.inl hc8)
      rw [← List.cons_append, numL_snoc]
      conv => lhs; rw [Lib.decDigits, dif_neg (by omega)]
      rw [show (numL (c :: l') * 10 + (d.toNat - 48)) / 10 = numL (c :: l') by omega, show (numL (c :: l') * 10 + (d.toNat - 48)) % 10 = d.toNat - 48 by omega, ih, byte_of hdd]
/-- The text of an integer is one, and stands for it. -/
theorem itoa_right (x : Int) : ∃ h : RightD ⟨(Lib.itoa x).toArray⟩, textZ ⟨(Lib.itoa x).toArray⟩ (right_num h).1 = x := by
  obtain ⟨d, neg, hd, hneg, hR, hZ, -, -⟩ := parts_text ⟨(Lib.itoa x).toArray⟩
  by_cases hx : x < 0
  · have hi : Lib.itoa x = 45 :: Lib.decDigits x.natAbs := by unfold Lib.itoa; rw [if_pos hx]
    have hu : 0 < x.natAbs := by omega
    obtain ⟨c, t, hct, hc⟩ := dec_head x.natAbs hu
    have hn : neg = true := by
      rw [← hneg, hi]; rfl
    have hdd : d = ⟨(Lib.decDigits x.natAbs).toArray⟩ := by
      rw [← hd, hi]; rfl
    have h0 : 0 < (⟨(Lib.decDigits x.natAbs).toArray⟩ : ByteArray).size := by rw [size_mk, hct]; simp
    have hfst : ((⟨(Lib.decDigits x.natAbs).toArray⟩ : ByteArray)[0]'h0).toNat ≠ 48 := by
      simp only [hct]; exact hc
    have hr : RightD ⟨(Lib.itoa x).toArray⟩ := by
      rw [hR, hdd]
      refine ⟨⟨dig_list.2 (dec_dig _), h0, fun h => hfst h.1⟩, fun h => ?_⟩
      rw [no_zero _ (fun ⟨_, h', _⟩ => hfst h')] at h
      exact absurd h.2 (by decide)
    refine ⟨hr, ?_⟩
    rw [hZ hr, hdd, hn, num_list (dec_dig _), num_dec]
    unfold sg; rw [if_pos rfl]; omega
  · have hi : Lib.itoa x = Lib.decDigits x.natAbs := by unfold Lib.itoa; rw [if_neg hx]; congr 1; omega
    have hne : ∃ c t, Lib.decDigits x.natAbs = c :: t ∧ (c.toNat ≠ 48 ∨ t = []) := by
      rcases Nat.eq_zero_or_pos x.natAbs with h | h
      · rw [h, Lib.decDigits_one (by decide)]; exact ⟨_, [], rfl, .inr rfl⟩
      · obtain ⟨c, t, h1, h2⟩ := dec_head _ h; exact ⟨c, t, h1, .inl h2⟩
    obtain ⟨c, t, hct, hc⟩ := hne
    have hcd := dec_dig x.natAbs c (by rw [hct]; simp)
    have hf : Lib.hasPrefix (Lib.decDigits x.natAbs) [45] = false := by
      rw [hct]
      have : ¬ (45 : UInt8) = c := fun h => by rw [← h] at hcd; exact absurd hcd.1 (by decide)
      show ((45 : UInt8) == c && List.isPrefixOf [] t) = false
      rw [beq_eq_false_iff_ne.2 this]; rfl
    have hn : neg = false := by rw [← hneg, hi]; exact hf
    have hdd : d = ⟨(Lib.decDigits x.natAbs).toArray⟩ := by
      rw [← hd, hi]; unfold Lib.trimPrefix; rw [if_neg (by rw [hf]; decide)]
    have h0 : 0 < (⟨(Lib.decDigits x.natAbs).toArray⟩ : ByteArray).size := by rw [size_mk, hct]; simp
    have hr : RightD ⟨(Lib.itoa x).toArray⟩ := by
      rw [hR, hdd]
      refine ⟨⟨dig_list.2 (dec_dig _), h0, fun h => ?_⟩, fun h => by rw [hn] at h; cases h.1⟩
      rcases hc with hc | hc
      · have h1 := h.1
        simp only [hct] at h1
        exact hc h1
      · have h2 := h.2
        rw [size_mk, hct, hc] at h2
        simp at h2
    refine ⟨hr, ?_⟩
    rw [hZ hr, hdd, hn, num_list (dec_dig _), num_dec]
    unfold sg; rw [if_neg (by decide)]; omega
/-- A text that is one is that of the integer for which it stands. -/
theorem right_itoa {s : ByteArray} (h : RightD s) : (⟨(Lib.itoa (textZ s (right_num h).1)).toArray⟩ : ByteArray) = s := by
  obtain ⟨d, neg, hd, hneg, hR, hZ, -, -⟩ := parts_text s
  rw [hZ h]
  obtain ⟨⟨hdg, h0, h8⟩, hz⟩ := hR.1 h
  obtain ⟨l, rfl⟩ : ∃ l : List UInt8, s = ⟨l.toArray⟩ := ⟨s.data.toList, by cases s; simp⟩
  obtain ⟨e, rfl⟩ : ∃ e : List UInt8, d = ⟨e.toArray⟩ := ⟨d.data.toList, by cases d; simp⟩
  have hdl := dig_list.1 hdg
  rw [num_list hdl]
  obtain ⟨c, t, rfl⟩ : ∃ c t, e = c :: t := by
    cases e with
    | nil => exact absurd h0 (by decide)
    | cons c t => exact ⟨c, t, rfl⟩
  have hct : c.toNat ≠ 48 ∨ t = [] := by
    by_cases hc : c.toNat = 48
    · refine .inr ?_
      have h1 : ¬ 1 < (⟨(c :: t).toArray⟩ : ByteArray).size := fun h => h8 ⟨hc, h⟩
      rw [size_mk, List.length_cons] at h1
      exact List.eq_nil_of_length_eq_zero (by omega)
    · exact .inl hc
  have hcd := hdl c (by simp)
  have htd : digL t := fun x hx => hdl x (by simp [hx])
  have hdn := dec_num c hcd t.length t rfl htd hct
  have hd' : Lib.trimPrefix l [45] = c :: t := by
    have := congrArg (fun b : ByteArray => b.data.toList) hd
    simpa using this
  have hneg' : Lib.hasPrefix l [45] = neg := hneg
  cases neg with
  | false =>
    have hl : l = c :: t := by
      unfold Lib.trimPrefix at hd'
      rw [if_neg (by rw [hneg']; decide)] at hd'
      exact hd'
    subst hl
    unfold sg; rw [if_neg (by decide)]
    rw [Lib.itoa_nonneg, hdn]
  | true =>
    have hl : l = 45 :: c :: t := by
      unfold Lib.trimPrefix at hd'
      rw [if_pos hneg'] at hd'
      cases l with
      | nil => cases hd'
      | cons b l' =>
        have h1 : b = 45 := by
          unfold Lib.hasPrefix at hneg'
          simp at hneg'
          exact hneg'.symm
        rw [h1, show l' = c :: t from hd']
    subst hl
    have hc8 : c.toNat ≠ 48 := fun hc => by
      rcases hct with h' | h'
      · exact h' hc
      · subst h'
        exact hz ⟨rfl, is_zero _ h0 hc (by rw [size_mk]; rfl)⟩
    have hp := num_pos c hcd hc8 t.length t rfl
    unfold sg; rw [if_pos rfl]
    rw [Lib.itoa_neg _ hp, hdn]
theorem ten154 : (6703903964971298549787012499102923063739682910296196688861780721860882015036773488400937149083451713845015929093243025426876941405973284973216824503042048 : Nat) < 10 ^ (153 + 1) := by decide +kernel
theorem itoa_len {x : Int} (hx : fit x) : (Lib.itoa x).length ≤ 155 := by
  have h : x.natAbs < 10 ^ (153 + 1) := by
    have h1 := ten154
    have h2 : x.natAbs ≤ 6703903964971298549787012499102923063739682910296196688861780721860882015036773488400937149083451713845015929093243025426876941405973284973216824503042048 := by unfold fit P511 at hx; omega
    exact Nat.lt_of_le_of_lt h2 h1
  have h3 := Dg.nd_le' 153 _ h
  unfold Lib.itoa
  split
  · rw [List.length_cons, Lib.decDigits_length]; omega
  · rename_i h0
    rw [Lib.decDigits_length, show x.toNat = x.natAbs by omega]; omega
end Go.Proofs.YtaafimabgcnbaabGreatDoor
