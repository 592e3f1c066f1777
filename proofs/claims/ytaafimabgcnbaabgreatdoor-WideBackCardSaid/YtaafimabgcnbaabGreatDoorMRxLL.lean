/-
  The runner over a row of pieces, one behind the other.
-/
import Derived.Test.YtaafimabgcnbaabGreatDoorMRxKK
set_option linter.all false
namespace Go.Rx
open Go Go.RowKit
def seqs : List Code → Code → Code
  | [], r => r
  | c :: l, r => .seq c (seqs l r)
def runS (E : Env) (n : Nat) : List Code → St → Option St
  | [], st => some st
  | c :: l, st => match codeX E n c st with
    | some (.normal, st') => runS E n l st'
    | _ => none
theorem seqs_wp {E : Env} {W : World} (hE : EnvOk E W) {n : Nat} {r : Code} {Q : Exit → Act → World → Prop} : ∀ (l : List Code) (st st' : St), runS E n l st = some st' → ∀ (ρ : Loc') (a : Act) (w : World), ρ.val = E.val → StRel W ρ st a w →
    (∀ ρ' a' w', ρ'.val = E.val → StRel W ρ' st' a' w' → r.wp E.P Q a' w') → (seqs l r).wp E.P Q a w
  | [], st, st', h, ρ, a, w, hV, hs, hQ => by
    simp only [runS, Option.some.injEq] at h
    subst h
    exact hQ ρ a w hV hs
  | c :: l, st, st', h, ρ, a, w, hV, hs, hQ => by
    simp only [runS] at h
    split at h
    · rename_i st1 hc
      refine wp_seq (((code_ok hE n) c _ _ st1 hc).2 ρ a w hV hs _ fun ρ' a' w' q1 _ q3 => ?_)
      exact seqs_wp hE l st1 st' h ρ' a' w' (q1.val.trans hV) q3 hQ
    · cases h
/-- Some pieces of a function with N slots, from live slots to live slots. -/
def fragS (E : Env) (n : Nat) (l : List Code) (N : Nat) (bx : List BoxD) (vs : List (Nat × V)) (o : Nat → V) (bx' : List BoxD) (vs' : List (Nat × V)) : Bool :=
  okIn bx vs && okIn bx' vs' && Nat.blt N 1000000 && match runS E n l ⟨trL (.tup []) (slotsX N bx vs o), memOf (blksX bx)⟩ with
    | some st => endsIn st N bx' vs'
    | none => false
theorem frags {E : Env} {W : World} (hE : EnvOk E W) {n : Nat} {l : List Code} {r : Code} {N : Nat} {bx bx' : List BoxD} {vs vs' : List (Nat × V)} (h : ∀ o, fragS E n l N bx vs o bx' vs' = true) {a : Act} {w : World} (hI : LInv W N E.val.num bx vs a w) {Q : Exit → Act → World → Prop}
    (hQ : ∀ a' w', LInv W N E.val.num bx' vs' a' w' → r.wp E.P Q a' w') : (seqs l r).wp E.P Q a w := by
  have h0 := h fun _ => .tup []
  simp only [fragS, Bool.and_eq_true] at h0
  obtain ⟨⟨⟨k1, k2⟩, k3⟩, -⟩ := h0
  obtain ⟨rs, o, hrel⟩ := inv_rel (Nat.blt_eq.mp k3) hI k1
  have h1 := h o
  simp only [fragS, Bool.and_eq_true] at h1
  obtain ⟨-, h1⟩ := h1
  split at h1
  · rename_i st hc
    refine seqs_wp hE l _ st hc (locOf E.val rs) a w rfl hrel fun ρ' a' w' hV q3 => ?_
    have := rel_inv q3 h1 k2
    rw [hV] at this
    exact hQ a' w' this
  · cases h1
end Go.Rx
