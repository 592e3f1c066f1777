/-
  Numbers as the runner's values.
-/
import Derived.Test.YteaglhkacfcgfaaRxN
namespace Go.Proofs.Yteaglhkacfcgfaa
open Go Go.Rx Go.RowKit
def word (n i : Nat) : C := .v (.int .u64 ((n / 2 ^ (64 * i)) % 2 ^ 64 : Nat))
/-- A number from 0 to 2^512 - 1 in eight words. -/
def mag (n : Nat) : V1 := .agg [word n 0, word n 1, word n 2, word n 3, word n 4, word n 5, word n 6, word n 7]
/-- A wide integer. -/
def wide (z : Int) : V1 := mag (z % 2 ^ 512).toNat
def int (n : Int) : V1 := .one (.v (.int .i64 n))
def str (s : String) : V1 := .one (.v (.string s.toUTF8))
def ok (x : V1) : V := .tup [x, int 0]
def bad (e : Int) : V := .tup [mag 0, int e]
def big : V := bad 6
def okk (x y : V1) : V := .tup [x, y, int 0]
def badd (e : Int) : V := .tup [mag 0, mag 0, int e]
end Go.Proofs.Yteaglhkacfcgfaa
