/-
  The candidates for one number: the iterator of draw.
  A range over a function whose iterator writes to memory: the two ends of the statement.
-/
import Derived.RangeFuncNested
import Derived.RangeFuncBound
import Derived.RangeFuncCalls
import Derived.RangeFuncLeaves
import Derived.Shelf.Abstract
import Derived.Shelf.RegionOpen
import Derived.WalkKit
import Derived.OwnWalkIn
import Derived.TacticsInMore
import Derived.LoopNIn
import Derived.LoopIn
import Derived.Test.YtfeapgpjchjphaaGreatMCE
set_option linter.all false
namespace Go.Proofs.YtfeapgpjchjphaaGreat
open Go Go.RowKit Go.Big Go.Shelf
attribute [local instance] noAv
attribute [local go_sem] Oper.semAt_some
theorem setOther {w : World} {X T : Nat} (h : T ≠ X) (v : Value) : (w.setCell ⟨X, 0, none⟩ v).heap[T]? = w.heap[T]? := by
  simp [World.setCell, Array.getElem?_modify, h.symm]
def stN : Nat → Int → Int
  | 0, s => s
  | n + 1, s => st (stN n s)
set_option maxHeartbeats 1600000 in
set_option maxRecDepth 100000 in
/-- Up to 200 candidates come, each from the state behind the one before. -/
theorem cand_in (l T X : Nat) (s : Int) (J Jx : Nat → World → Prop)
    (hJs : ∀ i W v, J i W → W.heap[X]? = some (.cells #[.int .u64 (stN i s)] 88) → J i (W.setCell ⟨X, 0, none⟩ v))
    (hY : ∀ i W, J i W → W.heap[X]? = some (.cells #[.int .u64 (stN (i + 1) s)] 88) → i < 200 → YieldAt Fence.wide 3 Tryz.prog l #[.int .u64 (mix (stN i s))] W fun e W' =>
      (e = .returned (.bool true) ∧ J (i + 1) W' ∧ W'.heap[X]? = W.heap[X]? ∧ W'.heap[T]? = W.heap[T]?) ∨ (e = .returned (.bool false) ∧ Jx (i + 1) W'))
    (W : World) (hXT : X ≠ T) (hT : W.heap[T]? = some (.cells #[.func (.func 43) #[.pointer (some ⟨X, 0, none⟩)] #[]] 89)) (hX : W.heap[X]? = some (.cells #[.int .u64 s] 88)) (h0 : J 0 W) :
    CallsIn Fence.wide 4 Tryz.prog 89 #[.func (.yield l) #[] #[], .pointer (some ⟨T, 0, none⟩)] W fun e W' => (∃ v, e = .returned v) ∧ (J 200 W' ∨ ∃ i, i < 200 ∧ Jx (i + 1) W') := by
  refine callsIn_of_wp Tryz.func89 rfl trivial ?_ rfl
  simp only [Tryz.ntmps89, List.size_toArray, List.length_cons, List.length_nil, Nat.reduceAdd, Nat.reduceSub, Array.replicate_succ, Array.replicate_zero, List.push_toArray, List.append_toArray, List.nil_append, List.cons_append]
  gi_wp2
  gi_loopw [3] (fun p wr => ∃ i : Nat, p = .int .i64 i ∧ i ≤ 200 ∧ J i wr ∧ wr.heap[X]? = some (.cells #[.int .u64 (stN i s)] 88) ∧ wr.heap[T]? = some (.cells #[.func (.func 43) #[.pointer (some ⟨X, 0, none⟩)] #[]] 89))
    (fun p _ => 200 - (intOf p).toNat)
  case atStart => exact ⟨0, rfl, by omega, h0, hX, hT⟩
  case round =>
    clear hX hT h0
    obtain ⟨i, rfl, hi, hJ, hX, hT⟩ := hrel
    by_cases h2 : i < 200
    · have cT : wr.cell? ⟨T, 0, none⟩ = some (.func (.func 43) #[.pointer (some ⟨X, 0, none⟩)] #[]) := (cellOf hT).trans rfl
      gi_wp2
      refine ⟨trivial, ?_⟩
      refine (callsIn_wide.2 (step_c _ hX)).mono ?_
      rintro e W2 ⟨rfl, rfl⟩
      have hJ2 := hJs i wr (.int .u64 (st (stN i s))) hJ hX
      have hX2 : (wr.setCell ⟨X, 0, none⟩ (.int .u64 (st (stN i s)))).heap[X]? = some (.cells #[.int .u64 (stN (i + 1) s)] 88) := heap_setCell_same wr X 0 _ 88 _ hX
      have hT2 : (wr.setCell ⟨X, 0, none⟩ (.int .u64 (st (stN i s)))).heap[T]? = some (.cells #[.func (.func 43) #[.pointer (some ⟨X, 0, none⟩)] #[]] 89) := by
        exact (setOther hXT.symm _).trans hT
      clear hJ hX hT cT
      generalize wr.setCell ⟨X, 0, none⟩ (.int .u64 (st (stN i s))) = w2 at *
      obtain ⟨fn, tmps, assign, body, hy, hR⟩ := hY i w2 hJ2 hX2 h2
      clear hY hJs
      gi_wp2
      refine hR.mono ?_
      rintro e W3 (⟨rfl, hJ3, e1, e2⟩ | ⟨rfl, hJx⟩)
      · rw [hX2] at e1
        rw [hT2] at e2
        clear hX2 hT2 hJ2 hy hR
        gi_wp2
        exact ⟨⟨i + 1, by simp, by omega, hJ3, e1, e2⟩, by simp [intOf]; omega⟩
      · gi_wp2
        exact bodyPost_ret (results_none rfl _ _ _) rfl ⟨⟨_, rfl⟩, .inr ⟨i, h2, hJx⟩⟩
    · obtain rfl : i = 200 := by omega
      gi_wp2
      exact bodyPost_end (results_none rfl _ _ _) rfl ⟨⟨_, rfl⟩, .inl hJ⟩
end Go.Proofs.YtfeapgpjchjphaaGreat
namespace Go.Proofs.YtfeapgpjchjphaaGreat
open Go Go.RowKit Go.Big Go.Shelf
attribute [local instance] noAv
/-- The record of the loop, by its state and its pending jump. -/
def lrec (fn : FuncId) (tmps : Array Value) (ps : Array Tmp) (assign body : Code) (D : Nat) (st : LoopState) (pe : Option Code) : Loop := { state := st, pending := pe, fn := fn, tmps := tmps, params := ps, assign := assign, body := body, defers := D }
theorem range_wide {P : Program} {g : Operand} {ps : Array Tmp} {assign body : Code} {Q : Exit → Act → World → Prop} {a : Act} {w : World} {gf : Nat} {lb : Array Value}
    (hg : a.eval g = .func (.func gf) #[] lb) (eg : ∀ args w, (callFunc gf args).run P w = .ok (.enter gf args) w)
    (h : ∀ fn (rc : LoopState → Option Code → Loop), rc = lrec fn a.tmps ps assign body w.heap.size → CallsIn Fence.wide 4 P gf (#[.func (.yield (w.heap.size + 1)) #[] #[]] ++ lb) ((w.alloc (.deferred (some []))).alloc (.loop (rc .ready none)))
      (rangePost Fence.wide 5 P (w.heap.size + 1) Q { a with defers := [{ target := .collected w.heap.size, args := #[] }] ++ a.defers })) :
    (Code.rangeFunc g ps assign body).wp P Q a w := by
  refine (wpIn_wide (n := 5)).1 ?_
  refine wpIn_rangeFunc ?_
  intro fn hfn
  have hro : Fence.wide.round = none := rfl
  rw [hro]
  have h := h fn _ rfl
  obtain ⟨W1, hW1⟩ : ∃ W1, (w.alloc (.deferred (some []))).alloc (.loop (lrec fn a.tmps ps assign body w.heap.size .ready none)) = W1 := ⟨_, rfl⟩
  rw [hW1] at h
  refine ⟨w.heap.size + 1, [{ target := .collected w.heap.size, args := #[] }], W1, { target := .fn (.func gf) lb, args := #[.func (.yield (w.heap.size + 1)) #[] #[]] }, W1, gf,
    #[.func (.yield (w.heap.size + 1)) #[] #[]] ++ lb, W1, ?_, ?_, ?_, ?_, ?_, ?_⟩
  · rw [← hW1]; exact run_enterLoop_outer _ _ _ _ _
  · simp only [resolve, hg]; simp [go_sem]
  · exact fun _ _ => True.intro
  · simp [invoke, go_sem, eg]
  · exact fun h => absurd h (by decide)
  · exact h
theorem yield_wide {P : Program} {fn : FuncId} {tmps : Array Value} {ps : Array Tmp} {assign body : Code} {D l m : Nat} {W : World} {args : Array Value} {R : Ending → World → Prop}
    (hl : W.heap[l]? = some (.loop (lrec fn tmps ps assign body D .ready none))) (hs : args.size = ps.size)
    (h : assign.wpIn (Fence.wide.inRound l) m P (Exit.then (fun a₁ w₁ => w₁ = W ∧ body.wpIn (Fence.wide.inRound l) m P (roundPost P l R) a₁ (W.putObj l (.loop (lrec fn tmps ps assign body D .busy none)))) (fun _ _ _ => False)) { tmps := (ps.zip args).foldl (fun t (p, v) => t.setIfInBounds p v) tmps, defers := [] } W) :
    YieldAt Fence.wide m P l args W R := by
  have hy := run_yield (P := P) (args := args) hl hs
  refine ⟨fn, _, assign, body, hy, roundIn_of_wpIn trivial (wpIn_mono h ?_)⟩
  rintro e a1 w1 hp
  cases e with
  | normal =>
    obtain ⟨rfl, hb⟩ := hp
    exact ⟨_, run_beginRound hl rfl, hb⟩
  | _ => exact hp.elim
end Go.Proofs.YtfeapgpjchjphaaGreat
