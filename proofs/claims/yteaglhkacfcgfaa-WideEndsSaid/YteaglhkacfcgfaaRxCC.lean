/-
  Contracts of package wide, for every value: Mul64 by two.
-/
import Derived.Test.YteaglhkacfcgfaaRxBB
namespace Go.Proofs.Yteaglhkacfcgfaa
open Go Go.Rx Go.RowKit

def mx0 : Exp := .bin .and .u64 wE (.lit 4294967295)
def mx1 : Exp := .bin .shr .u64 wE (.lit 32)
def mw0 : Exp := .bin .mul .u64 mx0 (.lit 2)
def mt : Exp := .bin .add .u64 (.bin .mul .u64 mx1 (.lit 2)) (.bin .shr .u64 mw0 (.lit 32))
def mw1 : Exp := .bin .add .u64 (.bin .and .u64 mt (.lit 4294967295)) (.bin .mul .u64 mx0 (.lit 0))
def mhi : Exp := .bin .add .u64 (.bin .add .u64 (.bin .mul .u64 mx1 (.lit 0)) (.bin .shr .u64 mt (.lit 32))) (.bin .shr .u64 mw1 (.lit 32))
def mlo : Exp := .bin .mul .u64 wE (.lit 2)
theorem mul_run (σ : Nat → Int) : runs σ [] [] ⟨108, [x1 wE, u1 2], .tup [x1 mhi, x1 mlo]⟩ 200 = true := by kernel_rfl
theorem am_1 (n : Nat) (_ : n < 18446744073709551616) : (n : Int) / ((2 ^ 32 : Nat) : Int) = ((n / 4294967296 : Nat) : Int) := by omega
theorem am_2 (n : Nat) (_ : n < 18446744073709551616) : ((n % 4294967296 : Nat) : Int) * 2 % 18446744073709551616 = ((n % 4294967296 * 2 : Nat) : Int) := by omega
theorem am_3 (n : Nat) (_ : n < 18446744073709551616) : ((n % 4294967296 * 2 : Nat) : Int) / ((2 ^ 32 : Nat) : Int) = ((n % 4294967296 / 2147483648 : Nat) : Int) := by omega
theorem am_4 (n : Nat) (_ : n < 18446744073709551616) : (((n / 4294967296 : Nat) : Int) * 2 % 18446744073709551616 + ((n % 4294967296 / 2147483648 : Nat) : Int)) % 18446744073709551616 = ((n / 2147483648 : Nat) : Int) := by omega
theorem am_5 (n : Nat) (_ : n < 18446744073709551616) : (((n / 2147483648 % 4294967296 : Nat) : Int) + ((n % 4294967296 : Nat) : Int) * 0 % 18446744073709551616) % 18446744073709551616 = ((n / 2147483648 % 4294967296 : Nat) : Int) := by omega
theorem am_6 (n : Nat) (_ : n < 18446744073709551616) : ((((n / 4294967296 : Nat) : Int) * 0 % 18446744073709551616 + ((n / 2147483648 : Nat) : Int) / ((2 ^ 32 : Nat) : Int)) % 18446744073709551616 + ((n / 2147483648 % 4294967296 : Nat) : Int) / ((2 ^ 32 : Nat) : Int)) % 18446744073709551616 = ((n / 9223372036854775808 : Nat) : Int) := by omega
theorem am_7 (n : Nat) (_ : n < 18446744073709551616) : (n : Int) * 2 % 18446744073709551616 = ((n * 2 % 18446744073709551616 : Nat) : Int) := by omega
theorem am_8 (n : Nat) (_ : n < 18446744073709551616) : n / 2147483648 < 2 ^ 64 := by omega
/-- Mul64 by two. -/
theorem f_Mul64 (n : Nat) (hn : n < 18446744073709551616) : Gives Try.prog 108 [.int .u64 n, .int .u64 2] (.tuple #[.int .u64 ((n / 9223372036854775808 : Nat) : Int), .int .u64 ((n * 2 % 18446744073709551616 : Nat) : Int)]) := by
  have ew : wE.eval (fun _ => (n : Int)) = (n : Int) := by
    show IntKind.u64.wrap (n : Int) = n
    rw [wrap_u64]; omega
  have e0 : mx0.eval (fun _ => (n : Int)) = ((n % 4294967296 : Nat) : Int) := by
    rw [mx0, ev_and _ _ _ n 4294967295 hn (by decide) ew rfl, and_lem]
  have e1 : mx1.eval (fun _ => (n : Int)) = ((n / 4294967296 : Nat) : Int) := by
    rw [mx1, show (Exp.lit 32) = Exp.lit ((32 : Nat) : Int) from rfl, ev_shr _ _ 32 (by decide), ew]; exact am_1 n hn
  have e2 : mw0.eval (fun _ => (n : Int)) = ((n % 4294967296 * 2 : Nat) : Int) := by
    rw [mw0, ev_mul, e0, ev_lit]; exact am_2 n hn
  have e3 : mt.eval (fun _ => (n : Int)) = ((n / 2147483648 : Nat) : Int) := by
    rw [mt, show (Exp.lit 32) = Exp.lit ((32 : Nat) : Int) from rfl, ev_add, ev_mul, ev_shr _ _ 32 (by decide), e1, e2, ev_lit, am_3 n hn]; exact am_4 n hn
  have e4 : mw1.eval (fun _ => (n : Int)) = ((n / 2147483648 % 4294967296 : Nat) : Int) := by
    rw [mw1, ev_add, ev_mul, ev_and _ _ _ (n / 2147483648) 4294967295 (am_8 n hn) (by decide) e3 rfl, and_lem, e0, ev_lit]; exact am_5 n hn
  have e5 : mhi.eval (fun _ => (n : Int)) = ((n / 9223372036854775808 : Nat) : Int) := by
    rw [mhi, show (Exp.lit 32) = Exp.lit ((32 : Nat) : Int) from rfl, ev_add, ev_add, ev_mul, ev_shr _ _ 32 (by decide), ev_shr _ _ 32 (by decide), e1, e3, e4, ev_lit]; exact am_6 n hn
  have e6 : mlo.eval (fun _ => (n : Int)) = ((n * 2 % 18446744073709551616 : Nat) : Int) := by
    rw [mlo, ev_mul, ew, ev_lit]; exact am_7 n hn
  have := run_gives (fun _ => (n : Int)) [] [] no_row no_test _ 200 mul_run
  simp only [List.map_cons, List.map_nil, valV_tup2, val_u1, val_x1, ew, e5, e6] at this
  exact this
end Go.Proofs.Yteaglhkacfcgfaa
