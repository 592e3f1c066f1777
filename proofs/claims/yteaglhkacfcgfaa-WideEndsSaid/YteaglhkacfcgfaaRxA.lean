/-
  THE RUNNER: a small reader of the model's code over plain data, by which a run can be reckoned. This text defines it; nothing is proved here.
-/
import Derived.WalkKit
import Derived.OrdersHeld
import Derived.Below
import Derived.Scope
import Derived.LoopN
namespace Go.Rx
open Go

/-! ### A table by numbers -/
inductive Tr (α : Type) where
  | e
  | n (l : Tr α) (x : α) (r : Tr α)

def Tr.get {α : Type} : Tr α → Nat → Option α
  | .e, _ => none
  | .n l x r, i => bif Nat.beq i 0 then some x else bif Nat.beq (Nat.mod i 2) 1 then l.get (Nat.div i 2) else r.get (Nat.pred (Nat.div i 2))
def Tr.set {α : Type} : Tr α → Nat → α → Tr α
  | .e, _, _ => .e
  | .n l x r, i, y => bif Nat.beq i 0 then .n l y r else bif Nat.beq (Nat.mod i 2) 1 then .n (l.set (Nat.div i 2) y) x r else .n l x (r.set (Nat.pred (Nat.div i 2)) y)
def Tr.ins {α : Type} : Tr α → Nat → α → Tr α
  | .e, i, y => bif Nat.beq i 0 then .n .e y .e else .e
  | .n l x r, i, y => bif Nat.beq i 0 then .n l y r else bif Nat.beq (Nat.mod i 2) 1 then .n (l.ins (Nat.div i 2) y) x r else .n l x (r.ins (Nat.pred (Nat.div i 2)) y)
/-- s places, each holding x. -/
def Tr.mk {α : Type} : Nat → Nat → α → Tr α
  | 0, _, _ => .e
  | f + 1, s, x => bif Nat.beq s 0 then .e else .n (Tr.mk f (Nat.div s 2) x) x (Tr.mk f (Nat.div (Nat.pred s) 2) x)

/-! ### Numbers that bear letters -/
inductive Exp where
  | inp (k : IntKind) (i : Nat)
  | lit (n : Int)
  | bin (op : BinOp) (k : IntKind) (a b : Exp)
  | wrap (k : IntKind) (a : Exp)
  | addS (a b c : Exp)
  | addC (a b c : Exp)
  | subS (a b c : Exp)
  | subC (a b c : Exp)
def intBin (op : BinOp) (k : IntKind) (a b : Int) : Option Value :=
  match op with
  | .add => some (.int k (k.wrap (a + b)))
  | .sub => some (.int k (k.wrap (a - b)))
  | .mul => some (.int k (k.wrap (a * b)))
  | .quo => if b = 0 then none else some (.int k (k.wrap (a.tdiv b)))
  | .rem => if b = 0 then none else some (.int k (a.tmod b))
  | .and => some (.int k (k.wrap (BitVec.ofInt k.bits a &&& BitVec.ofInt k.bits b).toNat))
  | .or => some (.int k (k.wrap (BitVec.ofInt k.bits a ||| BitVec.ofInt k.bits b).toNat))
  | .xor => some (.int k (k.wrap (BitVec.ofInt k.bits a ^^^ BitVec.ofInt k.bits b).toNat))
  | .eql => some (.bool (a == b))
  | .neq => some (.bool (a != b))
  | .lss => some (.bool (a < b))
  | .leq => some (.bool (a ≤ b))
  | .gtr => some (.bool (a > b))
  | .geq => some (.bool (a ≥ b))
  | _ => none
def shiftX (op : BinOp) (k : IntKind) (a b : Int) : Option Value :=
  if b < 0 then none else
    match op with
    | .shl => some (.int k (k.wrap (a * 2 ^ (min b.toNat k.bits))))
    | .shr => some (.int k (a.fdiv (2 ^ (min b.toNat k.bits))))
    | _ => none
def isShift : BinOp → Bool
  | .shl | .shr => true
  | _ => false
def arith (op : BinOp) (k : IntKind) (a b : Int) : Option Value := bif isShift op then shiftX op k a b else intBin op k a b
def numOf : Option Value → Int
  | some (.int _ n) => n
  | _ => 0
def Exp.eval (σ : Nat → Int) : Exp → Int
  | .inp k i => k.wrap (σ i)
  | .lit n => n
  | .bin op k a b => numOf (arith op k (a.eval σ) (b.eval σ))
  | .wrap k a => k.wrap (a.eval σ)
  | .addS a b c => (a.eval σ + b.eval σ + c.eval σ) % 18446744073709551616
  | .addC a b c => (a.eval σ + b.eval σ + c.eval σ) / 18446744073709551616
  | .subS a b c => (a.eval σ - b.eval σ - c.eval σ) % 18446744073709551616
  | .subC a b c => if a.eval σ < b.eval σ + c.eval σ then 1 else 0
def u64 : IntKind → Bool
  | .u64 => true
  | _ => false
/-- Surely from 0 to 2^64 - 1. -/
def Exp.word : Exp → Bool
  | .inp k _ => u64 k
  | .lit n => decide (0 ≤ n) && decide (n < 18446744073709551616)
  | .addS _ _ _ => true
  | .subS _ _ _ => true
  | .wrap k _ => u64 k
  | .bin op k _ _ => u64 k && match op with | .add | .sub | .mul | .and | .or | .xor | .shl => true | _ => false
  | _ => false
/-- Surely 0 or 1. -/
def Exp.bit : Exp → Bool
  | .lit n => decide (0 ≤ n) && decide (n ≤ 1)
  | .addC a b c => a.word && b.word && c.bit
  | .subC _ _ _ => true
  | _ => false
/-- The operation yields a number, whatever its operands are. -/
def surely (op : BinOp) (b : Exp) : Bool :=
  match op with
  | .add | .sub | .mul | .and | .or | .xor => true
  | .shl | .shr => match b with
    | .lit n => decide (0 ≤ n)
    | _ => false
  | .quo | .rem => match b with
    | .lit n => !(decide (n = 0))
    | _ => false
  | _ => false
def isCmp : BinOp → Bool
  | .eql | .neq | .lss | .leq | .gtr | .geq => true
  | _ => false

/-! ### Values -/
/-- One cell. -/
inductive C where
  | v (x : Value)
  | ptr (b o : Nat)
  | sl (b o n c : Nat)
  | fn (f : FuncId) (caps : List Nat)
  | mp (b : Nat)
  | ex (k : IntKind) (e : Exp)
inductive V1 where
  | one (c : C)
  | agg (l : List C)
inductive V where
  | s (x : V1)
  | tup (l : List V1)

def V1.cells : V1 → List C
  | .one c => [c]
  | .agg l => l
def ofValue : Value → V1
  | .agg cs => .agg (cs.toList.map .v)
  | x => .one (.v x)
/-- A value that may stand in the code. -/
def okConst : Value → Bool
  | .agg cs => cs.toList.all (·.oneCell')
  | .tuple _ => false
  | _ => true
abbrev vi (k : IntKind) (n : Int) : V := .s (.one (.v (.int k n)))
abbrev vb (b : Bool) : V := .s (.one (.v (.bool b)))

inductive Blk where
  | cells (l : List C) (e : TypeId)
  | map (l : List (Value × C))
  | iter (s : ByteArray) (pos : Nat)

/-- Memory: the blocks, how many numbers are taken, the least number that has been written. -/
structure Mem where
  hp : Tr Blk
  hn : Nat
  wr : Nat
structure St where
  tm : Tr V
  m : Mem

def St.put (st : St) (d : Option Tmp) (x : V) : St :=
  match d with
  | some t => ⟨st.tm.set t x, st.m⟩
  | none => st
def Mem.push (m : Mem) (b : Blk) : Mem := ⟨m.hp.ins m.hn b, m.hn + 1, m.wr⟩
def Mem.upd (m : Mem) (i : Nat) (b : Blk) : Mem := ⟨m.hp.set i b, m.hn, bif Nat.ble i m.wr then i else m.wr⟩

def St.eval (st : St) : Operand → Option V
  | .tmp t => st.tm.get t
  | .const x => bif okConst x then some (.s (ofValue x)) else none
  | .func f => some (.s (.one (.fn f [])))
  | .global _ => none
def St.ev1 (st : St) (x : Operand) : Option V1 :=
  match st.eval x with
  | some (.s y) => some y
  | _ => none
def St.evc (st : St) (x : Operand) : Option C :=
  match st.eval x with
  | some (.s (.one c)) => some c
  | _ => none

/-! ### The types -/
def isAggX (P : Program) (t : TypeId) : Option Bool :=
  match P.underlying t with
  | some (.struct _) | some (.array _ _) => some true
  | some _ => some false
  | none => none
def sizeX (P : Program) (t : TypeId) : Option Nat := (P.info? t).map (·.size)
def zeroX (P : Program) (t : TypeId) : Option (List C) :=
  match (P.info? t).bind (·.zero) with
  | some z => bif z.cells.toList.all (·.oneCell') then some (z.cells.toList.map .v) else none
  | none => none

/-! ### Rows of cells -/
def takeAt (l : List C) (o n : Nat) : Option (List C) := bif Nat.ble (o + n) l.length then some ((l.drop o).take n) else none
def putAt (l : List C) (o : Nat) (cs : List C) : Option (List C) :=
  bif Nat.ble (o + cs.length) l.length then some (l.take o ++ (cs ++ l.drop (o + cs.length))) else none
def partX (P : Program) (t : TypeId) (l : List C) (o : Nat) : Option V1 :=
  match isAggX P t with
  | some true => match sizeX P t with
    | some n => (takeAt l o n).map .agg
    | none => none
  | some false => (l[o]?).map .one
  | none => none
def oneCells : List C → Bool
  | [] => true
  | .v x :: r => x.oneCell' && oneCells r
  | _ :: r => oneCells r
def fillX (place : Nat → Option (Nat × Nat)) (cells : List C) : List (Nat × V1) → Option (List C)
  | [] => some cells
  | (i, x) :: rest =>
    match place i with
    | none => none
    | some (off, size) => bif Nat.beq x.cells.length size then (match putAt cells off x.cells with | some cells' => fillX place cells' rest | none => none) else none
def placeX (P : Program) (fs : Array Field) (i : Nat) : Option (Nat × Nat) :=
  match (fs[i]? : Option Field) with
  | some f => (sizeX P f.type).map fun s => (f.offset, s)
  | none => none
def partsX (st : St) : List (Nat × Operand) → Option (List (Nat × V1))
  | [] => some []
  | (i, x) :: r => match st.ev1 x, partsX st r with
    | some y, some l => some ((i, y) :: l)
    | _, _ => none

/-! ### Operations that only reckon or read -/
/-- Rows of integers of one kind: alike? -/
def rowEq : List C → List C → Option Bool
  | [], [] => some true
  | .v (.int k a) :: l, .v (.int k' b) :: l' => if k = k' then (match rowEq l l' with | some r => some (a == b && r) | none => none) else none
  | _, _ => none
def aggEq (P : Program) (t : TypeId) (l l' : List C) : Option Bool :=
  match P.underlying t with
  | some (.array n e) => match P.underlying e, sizeX P e with
    | some (.int _), some 1 => bif Nat.beq l.length n && Nat.beq l'.length n then rowEq l l' else none
    | _, _ => none
  | _ => none
def binX (P : Program) (op : BinOp) (t : TypeId) (x y : V1) : Option Value :=
  match x, y with
  | .one (.v (.int k a)), .one (.v (.int k' b)) => bif isShift op then shiftX op k a b else (if k = k' then intBin op k a b else none)
  | .one (.v (.bool a)), .one (.v (.bool b)) =>
    match P.underlying t, op with
    | some .bool, .eql => some (.bool (a == b))
    | some .bool, .neq => some (.bool !(a == b))
    | _, _ => none
  | .one (.v (.string a)), .one (.v (.string b)) =>
    match op with
    | .eql => some (.bool (a.toList == b.toList))
    | .neq => some (.bool !(a.toList == b.toList))
    | .add => bif Nat.ble (a.size + b.size) 9223372036854775807 then some (.string (a ++ b)) else none
    | _ => none
  | .agg l, .agg l' =>
    match op with
    | .eql => (aggEq P t l l').map .bool
    | .neq => (aggEq P t l l').map fun r => .bool !r
    | _ => none
  | _, _ => none
def unX (op : UnOp) (x : V1) : Option Value :=
  match op, x with
  | .neg, .one (.v (.int k n)) => some (.int k (k.wrap (0 - n)))
  | .not, .one (.v (.bool b)) => some (.bool !b)
  | _, _ => none
def convX (P : Program) (src dst : TypeId) (x : V1) : Option V1 :=
  match P.underlying src, P.underlying dst, x with
  | some _, some (.int k), .one (.v (.int _ n)) => some (.one (.v (.int k (k.wrap n))))
  | _, _, _ => none
def loadX (P : Program) (st : St) (t : TypeId) (b o : Nat) : Option V1 :=
  match st.m.hp.get b with
  | some (.cells l _) => partX P t l o
  | _ => none
def optInt (st : St) : Option Operand → Option (Option Int)
  | none => some none
  | some x => match st.evc x with
    | some (.v (.int _ i)) => some (some i)
    | _ => none
/-- low, high of 'x[low:high]' at a length and a capacity. -/
def boundsX (len cap : Nat) (lo hi : Option Int) : Option (Nat × Nat) :=
  let h : Option Nat := match hi with
    | none => some len
    | some i => if 0 ≤ i ∧ i ≤ cap then some i.toNat else none
  match h with
  | none => none
  | some h => match lo with
    | none => some (0, h)
    | some i => if 0 ≤ i ∧ i ≤ h then some (i.toNat, h) else none
def sliceX (P : Program) (st : St) (t : TypeId) (x : Operand) (lo hi : Option Operand) : Option V1 :=
  match optInt st lo, optInt st hi, st.evc x with
  | some lo, some hi, some c =>
    match P.underlying t, c with
    | some (.array n e), .ptr b o => match boundsX n n lo hi, sizeX P e with
      | some (l, h), some s => some (.one (.sl b (if n = l then o else o + l * s) (h - l) (n - l)))
      | _, _ => none
    | some (.slice e), .sl b o len cap => match boundsX len cap lo hi, sizeX P e with
      | some (l, h), some s => some (.one (.sl b (if cap = l then o else o + l * s) (h - l) (cap - l)))
      | _, _ => none
    | some .string, .v (.string s) => match boundsX s.size s.size lo hi with
      | some (l, h) => some (.one (.v (.string (s.extract l h))))
      | none => none
    | _, _ => none
  | _, _, _ => none
def intKey (kk : IntKind) (p : Value × C) : Bool :=
  match p.1 with
  | .int kq _ => decide (kq = kk)
  | _ => false
def findInt (kk : IntKind) (i : Int) (p : Value × C) : Option C :=
  match p.1 with
  | .int kq j => if kq = kk ∧ j = i then some p.2 else none
  | _ => none
def notInt (kk : IntKind) (i : Int) (p : Value × C) : Bool :=
  match p.1 with
  | .int kq j => decide (kq = kk) && !(j == i)
  | _ => false
def lookAt (P : Program) (t : TypeId) (blk : Option Blk) (kk : IntKind) (i : Int) : Option V1 :=
  match P.underlying t, blk with
  | some (.map kt _), some (.map l) => match P.underlying kt with
    | some (.int _) => bif l.all (intKey kk) then (l.findSome? (findInt kk i)).map .one else none
    | _ => none
  | _, _ => none
def lookX (P : Program) (st : St) (t : TypeId) (m k : Operand) : Option V1 :=
  match st.evc m, st.evc k with
  | some (.mp b), some (.v (.int kk i)) => lookAt P t (st.m.hp.get b) kk i
  | _, _ => none
def lenX (P : Program) (t : TypeId) (x : V1) : Option Value :=
  match P.underlying t, x with
  | some .string, .one (.v (.string s)) => some (.int .i64 s.size)
  | some (.array n _), _ => some (.int .i64 n)
  | some (.slice _), .one (.sl _ _ n _) => some (.int .i64 n)
  | some (.slice _), .one (.v (.slice _ n _)) => some (.int .i64 n)
  | _, _ => none
/-- What an operation yields that only reckons or reads. -/
def pureX (P : Program) (st : St) (o : Oper) : Option V :=
  match o.op with
  | .move x | .assign x => st.eval x
  | .pick c a b => match st.evc c with
    | some (.v (.bool t)) => bif t then st.eval a else st.eval b
    | _ => none
  | .build t ps =>
    match partsX st ps.toList, zeroX P t, P.underlying t with
    | some ps, some z, some (.array _ e) => match sizeX P e with
      | some s => (fillX (fun i => some (i * s, s)) z ps).map fun l => .s (.agg l)
      | none => none
    | some ps, some z, some (.struct fs) => bif fs.toList.all (fun f => (sizeX P f.type).isSome) then (fillX (placeX P fs) z ps).map fun l => .s (.agg l) else none
    | _, _, _ => none
  | .load t a => match st.evc a with
    | some (.ptr b o) => (loadX P st t b o).map .s
    | _ => none
  | .nilCheck x => match st.evc x with
    | some (.ptr b o) => some (.s (.one (.ptr b o)))
    | some (.fn f l) => some (.s (.one (.fn f l)))
    | _ => none
  | .binOp op t x y _ => match st.ev1 x, st.ev1 y with
    | some a, some b => (binX P op t a b).map fun v => .s (.one (.v v))
    | _, _ => none
  | .unOp op _ x => match st.ev1 x with
    | some a => (unX op a).map fun v => .s (.one (.v v))
    | none => none
  | .convert s d x => match st.ev1 x with
    | some a => (convX P s d a).map .s
    | none => none
  | .makeFunc (.func f) fst cs => bif Nat.beq fst.size 0 then (capsX st cs.toList).map fun l => .s (.one (.fn f l)) else none
  | .slice t x lo hi none => (sliceX P st t x lo hi).map .s
  | .fieldAddr t x f => match P.underlying t, st.evc x with
    | some (.struct fs), some (.ptr b o) => match fs[f]? with
      | some g => match sizeX P g.type with
        | some s => bif Nat.beq s 0 then none else some (.s (.one (.ptr b (o + g.offset))))
        | none => none
      | none => none
    | _, _ => none
  | .field t x f => match P.underlying t, st.ev1 x with
    | some (.struct fs), some (.agg l) => match fs[f]? with
      | some g => (partX P g.type l g.offset).map .s
      | none => none
    | _, _ => none
  | .indexAddr t x i => match P.underlying t, st.evc x, st.evc i with
    | some (.array n e), some (.ptr b o), some (.v (.int _ i)) => if 0 ≤ i ∧ i < n then (match sizeX P e with | some s => some (.s (.one (.ptr b (o + i.toNat * s)))) | none => none) else none
    | some (.slice e), some (.sl b o n _), some (.v (.int _ i)) => if 0 ≤ i ∧ i < n then (match sizeX P e with | some s => some (.s (.one (.ptr b (o + i.toNat * s)))) | none => none) else none
    | _, _, _ => none
  | .index t x i => match P.underlying t, st.ev1 x, st.evc i with
    | some (.array n e), some (.agg l), some (.v (.int _ i)) => if 0 ≤ i ∧ i < n then (match sizeX P e with | some s => (partX P e l (i.toNat * s)).map .s | none => none) else none
    | some .string, some (.one (.v (.string s))), some (.v (.int _ i)) => if 0 ≤ i then (s[i.toNat]?).map fun b => vi .u8 b.toNat else none
    | _, _, _ => none
  | .lookup t m k false => (lookX P st t m k).map .s
  | .extract t i => match st.eval t with
    | some (.tup l) => (l[i]?).map .s
    | _ => none
  | .call { callee := .builtin .len, args, argTypes } => match args[0]?, argTypes[0]? with
    | some x, some t => match st.ev1 x with
      | some a => (lenX P t a).map fun v => .s (.one (.v v))
      | none => none
    | _, _ => none
  | .call { callee := .builtin .max, args, .. } => match args.toList with
    | [x, y] => match st.evc x, st.evc y with
      | some (.v (.int k a)), some (.v (.int _ b)) => some (vi k (if b > a then b else a))
      | _, _ => none
    | _ => none
  | .call { callee := .builtin .min, args, .. } => match args.toList with
    | [x, y] => match st.evc x, st.evc y with
      | some (.v (.int k a)), some (.v (.int _ b)) => some (vi k (if b < a then b else a))
      | _, _ => none
    | _ => none
  | _ => none
where
  capsX (st : St) : List Operand → Option (List Nat)
    | [] => some []
    | x :: r => match st.evc x, capsX st r with
      | some (.ptr b 0), some l => some (b :: l)
      | _, _ => none

/-! ### Operations that make or write memory -/
def rowOf (st : St) (x : C) : Option (List C) :=
  match x with
  | .sl b o n _ => match st.m.hp.get b with
    | some (.cells l _) => takeAt l o n
    | _ => none
  | .v (.string s) => some (s.toList.map fun c => .v (.int .u8 c.toNat))
  | _ => none
/-- What an operation yields, and the memory behind it. -/
def memX (P : Program) (st : St) (o : Oper) : Option (V × Mem) :=
  match o.op with
  | .alloc t => match zeroX P t with
    | some z => some (.s (.one (.ptr st.m.hn 0)), st.m.push (.cells z t))
    | none => none
  | .box t x => match st.ev1 x with
    | some y => some (.s (.one (.ptr st.m.hn 0)), st.m.push (.cells y.cells t))
    | none => none
  | .store t a x => match st.evc a, st.ev1 x, sizeX P t with
    | some (.ptr b o), some y, some s => bif Nat.beq y.cells.length s && oneCells y.cells then
        (match st.m.hp.get b with
        | some (.cells l e) => (putAt l o y.cells).map fun l' => (.tup [], st.m.upd b (.cells l' e))
        | _ => none) else none
    | _, _, _ => none
  | .makeMap t none => match P.underlying t with
    | some (.map _ _) => some (.s (.one (.mp st.m.hn)), st.m.push (.map []))
    | _ => none
  | .insert t m k x => match P.underlying t, st.evc m, st.evc k, st.evc x with
    | some (.map kt _), some (.mp b), some (.v (.int kk i)), some c =>
      match P.underlying kt, st.m.hp.get b with
      | some (.int _), some (.map l) => bif l.all (notInt kk i) then some (.tup [], st.m.upd b (.map (l ++ [(.int kk i, c)]))) else none
      | _, _ => none
    | _, _, _, _ => none
  | .range t x => match P.underlying t, st.evc x with
    | some .string, some (.v (.string s)) => some (.s (.one (.ptr st.m.hn 0)), st.m.push (.iter s 0))
    | _, _ => none
  | .next it true => match st.evc it with
    | some (.ptr b 0) => match st.m.hp.get b with
      | some (.iter s pos) => bif Nat.blt pos s.size then
          some (.tup [.one (.v (.bool true)), .one (.v (.int .i64 pos)), .one (.v (.int .i32 (Utf8.decode s pos).1))], st.m.upd b (.iter s (pos + (Utf8.decode s pos).2)))
        else some (.tup [.one (.v (.bool false))], st.m)
      | _ => none
    | _ => none
  | .call { callee := .builtin .copy, args, argTypes } => match args.toList, argTypes[0]? with
    | [d, s], some t => match st.evc d, st.evc s, P.underlying t with
      | some (.sl b o n _), some y, some (.slice e) => match sizeX P e, rowOf st y, st.m.hp.get b with
        | some 1, some cs, some (.cells l e') =>
          bif oneCells (cs.take n) then (putAt l o (cs.take n)).map fun l' => (vi .i64 (min cs.length n : Nat), st.m.upd b (.cells l' e')) else none
        | _, _, _ => none
      | _, _, _ => none
    | _, _ => none
  | _ => none

/-! ### Code -/
inductive Ex where
  | normal
  | exit (id : Nat)
  | ret

structure Env where
  P : Program
  ext : FuncId → List V1 → Option V
  sum : FuncId → List V1 → Option V
  val : Nat → Int
  test : BinOp → Exp → Exp → Option Bool

def argsX (st : St) : List Operand → Option (List V1)
  | [] => some []
  | x :: r => match st.ev1 x, argsX st r with
    | some y, some l => some (y :: l)
    | _, _ => none
def capPtrs (l : List Nat) : List V1 := l.map fun b => .one (.ptr b 0)

def yieldedX (ops : Array Oper) (st : St) (j : Nat) : Option Bool :=
  match (ops[j]?).bind (·.dst) with
  | some t => match st.tm.get t with
    | some (.s (.one (.v (.bool b)))) => some b
    | _ => none
  | none => none
def wantedX (ops : Array Oper) (st : St) (o : Oper) : Bool :=
  match o.guard with
  | none => true
  | some (j, want) => yieldedX ops st j == some want

def exC : C → Option (IntKind × Exp)
  | .v (.int k n) => some (k, .lit n)
  | .ex k e => some (k, e)
  | _ => none
def symBin (E : Env) (op : BinOp) (c d : C) : Option C :=
  match exC c, exC d with
  | some (k, a), some (k', b) =>
    bif isShift op || decide (k = k') then
      (bif surely op b then some (.ex k (.bin op k a b))
      else bif isCmp op then (E.test op a b).map fun r => .v (.bool r) else none)
    else none
  | _, _ => none
def symRow (E : Env) : List C → List C → Option Bool
  | [], [] => some true
  | c :: l, d :: m => match exC c, exC d with
    | some (k, a), some (k', b) => bif decide (k = k') then
        (match E.test .eql a b, symRow E l m with
        | some r, some r' => some (r && r')
        | _, _ => none) else none
    | _, _ => none
  | _, _ => none
def symAgg (E : Env) (t : TypeId) (l m : List C) : Option Bool :=
  match E.P.underlying t with
  | some (.array n e) => match E.P.underlying e, sizeX E.P e with
    | some (.int _), some 1 => bif Nat.beq l.length n && Nat.beq m.length n then symRow E l m else none
    | _, _ => none
  | _ => none
/-- Operations on numbers that bear letters. -/
def orcX (E : Env) (st : St) (o : Oper) : Option V :=
  match o.op with
  | .binOp op t x y _ => match st.ev1 x, st.ev1 y with
    | some (.one c), some (.one d) => (symBin E op c d).map fun c => .s (.one c)
    | some (.agg l), some (.agg m) => match op with
      | .eql => (symAgg E t l m).map fun r => .s (.one (.v (.bool r)))
      | .neq => (symAgg E t l m).map fun r => .s (.one (.v (.bool !r)))
      | _ => none
    | _, _ => none
  | .convert s d x => match E.P.underlying s, E.P.underlying d, st.evc x with
    | some _, some (.int k), some (.ex _ e) => some (.s (.one (.ex k (.wrap k e))))
    | _, _, _ => none
  | _ => none
def pureO (E : Env) (st : St) (o : Oper) : Option V :=
  match pureX E.P st o with
  | some v => some v
  | none => orcX E st o
abbrev Runs := FuncId → List V1 → Mem → Option (V × Mem)
/-- A call of a Go function. -/
def callX (E : Env) (run : Runs) (st : St) (f : Operand) (args : Array Operand) : Option (V × Mem) :=
  match st.evc f, argsX st args.toList with
  | some (.fn f caps), some l =>
    let all := l ++ capPtrs caps
    match E.ext f all with
    | some v => some (v, st.m)
    | none => match E.sum f all with
      | some v => some (v, st.m)
      | none => run f all st.m
  | _, _ => none
def isCall (o : Oper) : Bool :=
  match o.op with
  | .call { callee := .value _, .. } => true
  | _ => false
/-- An operation that is neither a read nor a reckoning. -/
def actX (E : Env) (run : Runs) (st : St) (o : Oper) : Option (V × Mem) :=
  match o.op with
  | .call { callee := .value f, args, .. } => callX E run st f args
  | _ => memX E.P st o
def opX (E : Env) (run : Runs) (st : St) (o : Oper) : Option (V × Mem) :=
  match pureO E st o with
  | some v => some (v, st.m)
  | none => actX E run st o

def opsX (E : Env) (run : Runs) (ops : Array Oper) : List Oper → St → Option St
  | [], st => some st
  | o :: rest, st =>
    bif wantedX ops st o then
      match opX E run st o with
      | some (v, m) => opsX E run ops rest (St.put ⟨st.tm, m⟩ o.dst v)
      | none => none
    else opsX E run ops rest (st.put o.dst (.tup []))

/-! ### A region that draws its order -/
/-- The block that an operation looks into (none: it looks into none): 'some none': it can't be told. -/
def looksAt (st : St) (o : Oper) : Option (Option Nat) :=
  match o.op with
  | .load _ a => match st.evc a with
    | some (.ptr b _) => some (some b)
    | _ => some none
  | .lookup _ m _ _ => match st.evc m with
    | some (.mp b) => some (some b)
    | _ => some none
  | _ => none
/-- The one old block that an operation writes, if it is no call. -/
def hitsX (st : St) (o : Oper) : Option Nat :=
  match o.op with
  | .store _ a _ => match st.evc a with
    | some (.ptr b _) => some b
    | _ => none
  | .call { callee := .builtin .copy, args, .. } => match args.toList with
    | d :: _ => match st.evc d with
      | some (.sl b _ _ _) => some b
      | _ => none
    | _ => none
  | _ => none
/-- Does o wait for number i? -/
def waitsFor (o : Oper) (i : Nat) : Bool := o.after.any fun e => Nat.beq e.on i && Region.binds .any e
def isAlloc (o : Oper) : Bool :=
  match o.op with
  | .alloc _ => true
  | _ => false
/-- The new variables of a region have numbers that are set aside for them. -/
def aside (P : Program) : List Oper → Mem → Option Mem
  | [], m => some m
  | o :: r, m => match o.op with
    | .alloc t => match zeroX P t with
      | some z => aside P r (m.push (.cells z t))
      | none => none
    | _ => aside P r m
def rank (ops : Array Oper) (i : Nat) : Nat := ((ops.toList.take i).filter isAlloc).length
/-- What an operation of such a region yields that leaves the runner's memory as it is: what may be taken first; and the block that it looks into. -/
def floatX (E : Env) (ops : Array Oper) (hn0 : Nat) (st : St) (i : Nat) (o : Oper) : Option (V × Option Nat) :=
  bif wantedX ops st o then
    bif isAlloc o then some (.s (.one (.ptr (hn0 + rank ops i) 0)), none)
    else match looksAt st o with
      | none => (pureO E st o).map fun v => (v, none)
      | some (some b) => bif Nat.blt b hn0 then (pureO E st o).map fun v => (v, some b) else none
      | some none => none
  else some (.tup [], none)
/-- The looks that o does not wait for see what they saw. -/
def spares (hn0 : Nat) (bs : List (Nat × Nat)) (st : St) (o : Oper) (wr : Nat) : Bool :=
  Nat.ble hn0 wr || bs.all fun (i, b) => waitsFor o i || (match hitsX st o with | some wb => !(Nat.beq wb b) | none => false)
/-- What an operation does that does not float. -/
def heavyX (E : Env) (run : Runs) (hn0 : Nat) (bs : List (Nat × Nat)) (st : St) (o : Oper) : Option (V × Mem) :=
  match opX E run ⟨st.tm, ⟨st.m.hp, st.m.hn, st.m.hn⟩⟩ o with
  | some (v, m) => bif spares hn0 bs st o m.wr then some (v, ⟨m.hp, m.hn, bif Nat.ble st.m.wr m.wr then st.m.wr else m.wr⟩) else none
  | none => none
def withLook (i : Nat) : Option Nat → List (Nat × Nat) → List (Nat × Nat)
  | some b, bs => (i, b) :: bs
  | none, bs => bs
/-- May it be taken first? -/
def takes (E : Env) (ops : Array Oper) (hn0 : Nat) (listed : Array Bool) (st : St) (i : Nat) : Bool :=
  match ops[i]? with
  | some o => (floatX E ops hn0 st i o).isSome && Region.free .any ops listed i
  | none => false

def drawX (E : Env) (run : Runs) (ops : Array Oper) (hn0 : Nat) : Nat → Array Bool → List (Nat × Nat) → St → Option St
  | 0, listed, _, st => match Region.ready .any ops listed with | [] => some st | _ :: _ => none
  | fuel + 1, listed, bs, st =>
    match Region.ready .any ops listed with
    | [] => some st
    | r0 :: rs =>
      match (r0 :: rs).find? (takes E ops hn0 listed st) with
      | some i => match ops[i]? with
        | some o => match floatX E ops hn0 st i o with
          | some (v, b) => drawX E run ops hn0 fuel (listed.setIfInBounds i true) (withLook i b bs) (st.put o.dst v)
          | none => none
        | none => none
      | none => match rs with
        | [] => match ops[r0]? with
          | some o => match (match floatX E ops hn0 st r0 o with | some (v, _) => some (v, st.m) | none => heavyX E run hn0 bs st o) with
            | some (v, m) => drawX E run ops hn0 fuel (listed.setIfInBounds r0 true) bs (St.put ⟨st.tm, m⟩ o.dst v)
            | none => none
          | none => none
        | _ :: _ => none

def resX (P : Program) (st : St) : List ResultVar → Option (List V1)
  | [] => some []
  | .tmp t :: r => match st.ev1 (.tmp t), resX P st r with
    | some y, some l => some (y :: l)
    | _, _ => none
  | .cell a t :: r => match st.evc (.tmp a) with
    | some (.ptr b o) => match loadX P st t b o, resX P st r with
      | some y, some l => some (y :: l)
      | _, _ => none
    | _ => none
def packX : List V1 → V
  | [x] => .s x
  | l => .tup l
def putArgs : List V1 → Nat → Tr V → Tr V
  | [], _, t => t
  | x :: r, i, t => putArgs r (i + 1) (t.set i (.s x))

/-- The slots at a function's beginning. -/
def enterX (fn : Func) (args : List V1) : Option (Tr V) :=
  bif Nat.ble args.length fn.ntmps && Nat.ble fn.ntmps 1000000 then some (putArgs args 0 (Tr.mk 20 fn.ntmps (.tup []))) else none
/-- The end of a function's body: its results. -/
def endX (P : Program) (fn : Func) (r : Option (Ex × St)) : Option (V × Mem) :=
  match r with
  | some (.normal, st) | some (.ret, st) => (resX P st fn.results.toList).map fun l => (packX l, st.m)
  | _ => none
/-- A call of function f at these values in this memory, its body run by 'code'. -/
def runX (P : Program) (code : Code → St → Option (Ex × St)) : Runs := fun f args m =>
  match P.funcs[f]? with
  | some fn => match fn.body with
    | some body => match enterX fn args with
      | some tm => endX P fn (code body ⟨tm, m⟩)
      | none => none
    | none => none
  | none => none
def codeX (E : Env) : Nat → Code → St → Option (Ex × St)
  | 0, _, _ => none
  | n + 1, c, st =>
    let run : Runs := runX E.P (codeX E n)
    match c with
    | .skip => some (.normal, st)
    | .label _ => some (.normal, st)
    | .ret => some (.ret, st)
    | .exit id => some (.exit id, st)
    | .seq a b => match codeX E n a st with
      | some (.normal, st') => codeX E n b st'
      | r => r
    | .cond x a b => match st.evc x with
      | some (.v (.bool t)) => bif t then codeX E n a st else codeX E n b st
      | _ => none
    | .block id b => match codeX E n b st with
      | some (.exit i, st') => bif Nat.beq i id then some (.normal, st') else some (.exit i, st')
      | r => r
    | .loop b => match codeX E n b st with
      | some (.normal, st') => codeX E n (.loop b) st'
      | r => r
    | .scope b => codeX E n b st
    | .region _ ops false => (opsX E run ops ops.toList st).map fun st' => (.normal, st')
    | .region _ ops true => match aside E.P ops.toList st.m with
      | some m => (drawX E run ops st.m.hn ops.size (Array.replicate ops.size false) [] ⟨st.tm, m⟩).map fun st' => (.normal, st')
      | none => none
    | _ => none
/-- A call of function f at these values in this memory. -/
def funX (E : Env) (fuel : Nat) : Runs := runX E.P (codeX E fuel)
end Go.Rx
