/-
  The first part of a machine for laws over plain values: values, floats, states, what an operation answers. No condition; nothing of one program stands here.
-/
import Derived.WalkKit
import Derived.Laws.FloatBits
import Derived.Laws.FloatArith
import Derived.Laws.MakeOwn
import Derived.Laws.AppendOwn
set_option linter.unusedSectionVars false
namespace Ev
open Go
noncomputable section

/-! floats -/
def qn : FloatKind → Nat
  | .f32 => 2143289344
  | .f64 => 9221120237041090560
def isN (k : FloatKind) (b : Nat) : Bool := (k.format.read b).isNaN
def cn (k : FloatKind) (b : Nat) : Nat := bif isN k b then qn k else b
def o2 (k : FloatKind) : Option Nat → Nat
  | some r => r
  | none => qn k
def fadd (k : FloatKind) (a b : Nat) : Nat := o2 k (k.format.add a b)
def fsub (k : FloatKind) (a b : Nat) : Nat := o2 k (k.format.sub a b)
def fmul (k : FloatKind) (a b : Nat) : Nat := o2 k (k.format.mul a b)
def fdiv (k : FloatKind) (a b : Nat) : Nat := o2 k (k.format.div a b)
def feq (k : FloatKind) (a b : Nat) : Bool := k.format.order a b == some .eq
def fne (k : FloatKind) (a b : Nat) : Bool := k.format.order a b != some .eq
def flt (k : FloatKind) (a b : Nat) : Bool := k.format.order a b == some .lt
def fle (k : FloatKind) (a b : Nat) : Bool := k.format.order a b == some .lt || k.format.order a b == some .eq
def fgt (k : FloatKind) (a b : Nat) : Bool := k.format.order a b == some .gt
def fge (k : FloatKind) (a b : Nat) : Bool := k.format.order a b == some .gt || k.format.order a b == some .eq
def fneg (k : FloatKind) (a : Nat) : Nat := cn k (Op.negFloat k a)
/-- widening and narrowing -/
def fcv (s d : FloatKind) (a : Nat) : Nat :=
  match s.format.read a with
  | .nan _ _ => qn d
  | .infinity g => d.format.write (.infinity g)
  | .number g m e => d.format.write (.number g m e)
def fcvOk (s d : FloatKind) (a : Nat) : Bool :=
  match s.format.read a with
  | .number g m e => !(d.format.read (d.format.write (.number g m e))).isInfinity
  | _ => true
def fsqrt (a : Nat) : Nat := o2 .f64 (FloatKind.f64.format.sqrt a)
/-- a number, cut to an integer, and whether that is one of the kind -/
def ftoi (k : FloatKind) (a : Nat) : Int :=
  match (k.decode a).toInt .zero with
  | some n => n
  | none => 0
def ftoiOk (k : FloatKind) (d : IntKind) (a : Nat) : Bool :=
  match (k.decode a).toInt .zero with
  | some n => decide (d.min ≤ n) && decide (n ≤ d.max)
  | none => false

/-! states -/
abbrev Heap := List (Option (List Value))
structure St where
  tmps : List (Value × Bool)
  heap : Heap
  ok : Bool

def pureS {α : Type} (P : Program) : Sem α → Option α
  | .pure a => some a
  | .program k => pureS P (k P)
  | _ => none

def canonB : Value → Bool
  | .bool _ | .int _ _ | .string _ | .nilFunc | .nilIface | .pointer none | .slice none _ _ | .map none => true
  | .float k b => !isN k b || Nat.beq b (qn k)
  | .iface _ (.agg cs) => cs.toList.isEmpty
  | _ => false

def evl (t : List (Value × Bool)) : Operand → Value × Bool
  | .tmp i => t.getD i (undef, false)
  | .const v => (v, canonB v)
  | .func f => (.func (.func f) #[] #[], true)
  | .global _ => (undef, false)

def isAggD : TypeDesc → Bool
  | .struct _ | .array _ _ => true
  | _ => false

def scalarB : Value → Bool
  | .agg _ | .tuple _ => false
  | _ => true

/-- a part of a row of cells -/
def partD (P : Program) (t : TypeId) (cs : List Value) (off : Nat) : Option Value :=
  match P.underlying t with
  | some d =>
    bif isAggD d then
      match P.info? t with
      | some i => some (.agg ((cs.drop off).take i.size).toArray)
      | none => none
    else cs[off]?
  | none => none

/-- a cell that came in, as it is looked at: its NaNs are made one -/
inductive CanR : Value → Value → Prop where
  | bool (b : Bool) : CanR (.bool b) (.bool b)
  | int (k : IntKind) (n : Int) : CanR (.int k n) (.int k n)
  | string (s : ByteArray) : CanR (.string s) (.string s)
  | float (k : FloatKind) (a x : Nat) (h : a = cn k x) : CanR (.float k a) (.float k x)
/-- the same; or a token within a row -/
inductive CanT (R : Nat → Value → Prop) : Value → Value → Prop where
  | can (v v' : Value) (h : CanR v v') : CanT R v v'
  | tok (k l c : Nat) (a : Option Addr) (c' : Nat) (h : R k (.slice a l c')) : CanT R (.slice (some ⟨k, 0, some 0⟩) l c) (.slice a l c')
/-- what came in from outside: tokens for slices, their cells, what is known of memory, and contracts of functions that look into them (arguments, the heap: the answer, new rows) -/
class Frn where
  rel : Nat → Value → Prop
  inv : World → Prop
  base : Nat
  keep : ∀ {w w' : World} {B : Nat}, base ≤ B → Go.RowKit.Below B w w' → inv w → inv w'
  row : Nat → List Value
  cell : ∀ {w : World} {k l c : Nat} {a : Option Addr}, inv w → rel k (.slice a l c) → ∀ (j : Nat) (v : Value), (row k)[j]? = some v → ∃ b o v', a = some ⟨b, o, none⟩ ∧ w.cell? ⟨b, o + j, none⟩ = some v' ∧ CanT rel v v'
  addr : ∀ {k l c : Nat} {a : Option Addr}, rel k (.slice a l c) → 0 < l → ∃ b o, a = some ⟨b, o, none⟩
  con : FuncId → Option (List Value → List (Option (List Value)) → Option (Value × List (List Value) × Bool))
instance (priority := low) noFrn : Frn := ⟨fun _ _ => False, fun _ => True, 0, fun _ _ _ => trivial, fun _ => [], fun _ h => h.elim, fun h => h.elim, fun _ => none⟩
variable [Frn]

def loadD (P : Program) (chk : Nat → Bool) (h : Heap) (t : TypeId) : Value → Option Value
  | .pointer (some ⟨b, o, none⟩) =>
    bif chk b then
    match h.getD b none with
    | some cs =>
      match P.underlying t with
      | some d =>
        bif isAggD d then
          match P.info? t with
          | some i => bif Nat.ble (o + i.size) cs.length then some (.agg ((cs.drop o).take i.size).toArray) else none
          | none => none
        else cs[o]?
      | none => none
    | none => none
    else none
  | .pointer (some ⟨k, o, some _⟩) =>
    match P.underlying t with
    | some d =>
      bif isAggD d then
        match P.info? t with
        | some i => bif Nat.ble (o + i.size) (Frn.row k).length then some (.agg (((Frn.row k).drop o).take i.size).toArray) else none
        | none => none
      else (Frn.row k)[o]?
    | none => none
  | _ => none

def setRow (cs : List Value) (o : Nat) (vs : List Value) : List Value := cs.take o ++ vs ++ cs.drop (o + vs.length)

def storeD (P : Program) (chk : Nat → Bool) (h : Heap) (t : TypeId) (a x : Value) : Option (Nat × List Value) :=
  match a with
  | .pointer (some ⟨b, o, none⟩) =>
    bif chk b then
    match h.getD b none with
    | some cs => match P.info? t with
      | some i =>
        bif Nat.beq x.cells.toList.length i.size && x.cells.toList.all scalarB && Nat.ble (o + x.cells.toList.length) cs.length then some (b, setRow cs o x.cells.toList) else none
      | none => none
    | none => none
    else none
  | _ => none

def rigid : Value → Bool
  | .bool _ | .int _ _ | .string _ => true
  | _ => false

def fbin (op : BinOp) (k : FloatKind) (a b : Nat) : Option Value :=
  match op with
  | .add => some (.float k (fadd k a b))
  | .sub => some (.float k (fsub k a b))
  | .mul => some (.float k (fmul k a b))
  | .quo => some (.float k (fdiv k a b))
  | .eql => some (.bool (feq k a b))
  | .neq => some (.bool (fne k a b))
  | .lss => some (.bool (flt k a b))
  | .leq => some (.bool (fle k a b))
  | .gtr => some (.bool (fgt k a b))
  | .geq => some (.bool (fge k a b))
  | _ => none

def sameK : FloatKind → FloatKind → Bool
  | .f32, .f32 | .f64, .f64 => true
  | _, _ => false

def rig : Option Value → Option Value
  | some v => bif rigid v then some v else none
  | none => none

def boolD (op : BinOp) (a b : Bool) : Option Value :=
  match op with
  | .eql => some (.bool (a == b))
  | .neq => some (.bool (!(a == b)))
  | _ => none

def eqInts : List Value → List Value → Bool
  | .int _ a :: r, .int _ b :: s => (a == b) && eqInts r s
  | _, _ => true
def allInt (k : IntKind) : List Value → Bool
  | [] => true
  | .int k' _ :: r => decide (k' = k) && allInt k r
  | _ :: _ => false
/-- fields, compared one by one -/
def eqFields (P : Program) (go : TypeId → Value → Value → Option Bool) (xs ys : List Value) : List Field → Option Bool
  | [] => some true
  | f :: r => bif f.name == "_" then none else
    match partD P f.type xs f.offset with
    | some a => match partD P f.type ys f.offset with
      | some b => match go f.type a b with
        | some c => match eqFields P go xs ys r with
          | some q => some (c && q)
          | none => none
        | none => none
      | none => none
    | none => none
def eqElems (P : Program) (go : Value → Value → Option Bool) (e : TypeId) (size : Nat) (xs ys : List Value) : Nat → Nat → Option Bool
  | 0, _ => some true
  | m + 1, i =>
    match partD P e xs (i * size) with
    | some a => match partD P e ys (i * size) with
      | some b => match go a b with
        | some c => match eqElems P go e size xs ys m (i + 1) with
          | some q => some (c && q)
          | none => none
        | none => none
      | none => none
    | none => none
/-- bools, integers, texts; arrays and structs of these -/
def eqD (P : Program) : Nat → TypeId → Value → Value → Option Bool
  | 0, _, _, _ => none
  | d + 1, t, x, y => match P.underlying t with
    | some .bool => (match x, y with | .bool a, .bool b => some (a == b) | _, _ => none)
    | some (.int _) => (match x, y with | .int k a, .int k' b => bif decide (k = k') then some (a == b) else none | _, _ => none)
    | some (.float _) => (match x, y with | .float k a, .float k' b => bif sameK k k' then some (feq k a b) else none | _, _ => none)
    | some .string => (match x, y with | .string a, .string b => some (a == b) | _, _ => none)
    | some (.struct fs) => (match x, y with
      | .agg xs, .agg ys => bif P.stoodInHeld t then none else eqFields P (eqD P d) xs.toList ys.toList fs.toList
      | _, _ => none)
    | some (.array n e) => (match x, y with
      | .agg xs, .agg ys => (match P.info? e with
        | some i => eqElems P (eqD P d e) e i.size xs.toList ys.toList n 0
        | none => none)
      | _, _ => none)
    | _ => none
def aggE (P : Program) (op : BinOp) (t : TypeId) (xs ys : List Value) : Option Value :=
  bif P.eqGuardType P.depth t then none else
  match eqD P 6 t (.agg xs.toArray) (.agg ys.toArray) with
  | some b => boolD op true b
  | none => none
/-- arrays and structs, compared as wholes -/
def aggD (P : Program) (op : BinOp) (t : TypeId) (xs ys : List Value) : Option Value :=
  match P.underlying t with
  | some (.array n e) => match P.underlying e with
    | some (.int k) => match P.info? e with
      | some i => bif Nat.beq i.size 1 && allInt k xs && allInt k ys && Nat.beq xs.length n && Nat.beq ys.length n && !(P.eqGuardType P.depth t) then boolD op true (eqInts xs ys) else none
      | none => none
    | _ => aggE P op t xs ys
  | _ => aggE P op t xs ys

def binD (P : Program) (op : BinOp) (t : TypeId) (x y : Value) : Option Value :=
  match x, y with
  | .float k a, .float k' b => bif sameK k k' then fbin op k a b else none
  | .int k a, .int k' b => rig (pureS P (binOp op t (.int k a) (.int k' b)))
  | .string a, .string b => rig (pureS P (binOp op t (.string a) (.string b)))
  | .bool a, .bool b => match P.underlying t with
    | some .bool => boolD op a b
    | _ => none
  | .agg xs, .agg ys => aggD P op t xs.toList ys.toList
  | _, _ => none

def unD (P : Program) (op : UnOp) (x : Value) : Option Value :=
  match op, x with
  | .neg, .float k a => some (.float k (fneg k a))
  | .not, .bool b => some (.bool (!b))
  | op, .int k n => rig (pureS P (Op.unary op (.int k n)))
  | _, _ => none

def cvD (P : Program) (s d : TypeId) (x : Value) : Option (Value × Bool) :=
  match x with
  | .float k a =>
    match P.underlying s, P.underlying d with
    | some (.float _), some (.float k') => match k, k' with
      | .f32, .f64 => some (.float .f64 (fcv .f32 .f64 a), true)
      | .f64, .f32 => some (.float .f32 (fcv .f64 .f32 a), fcvOk .f64 .f32 a)
      | k, _ => some (.float k a, true)
    | some (.float _), some (.int k') => some (.int k' (ftoi k a), ftoiOk k k' a)
    | _, _ => none
  | .int k n => (match pureS P (convert s d (.int k n)) with | some v => some (v, rigid v || canonB v) | none => none)
  | .string b => (match rig (pureS P (convert s d (.string b))) with | some v => some (v, true) | none => none)
  | _ => none

def idxD (P : Program) (t : TypeId) (x ix : Value) : Option Value :=
  match ix with
  | .int _ i =>
    match P.underlying t, x with
    | some (.array len elem), .agg cs =>
      match P.info? elem with
      | some inf => bif decide (0 ≤ i) && decide (i < len) then partD P elem cs.toList (i.toNat * inf.size) else none
      | none => none
    | some .string, .string s => bif decide (0 ≤ i) && decide (i < (s.size : Nat)) then some (.int .u8 ((s.data.toList.getD i.toNat 0).toNat : Nat)) else none
    | _, _ => none
  | _ => none

def addrPlus (b o n : Nat) : Value := .pointer (some ⟨b, o + n, none⟩)

def idxAddrD (P : Program) (t : TypeId) (x ix : Value) : Option Value :=
  match ix with
  | .int _ i =>
    match P.underlying t, x with
    | some (.array len elem), .pointer (some ⟨b, o, none⟩) =>
      match P.info? elem with
      | some inf => bif decide (0 ≤ i) && decide (i < len) then some (addrPlus b o (i.toNat * inf.size)) else none
      | none => none
    | some (.slice elem), .slice (some ⟨b, o, none⟩) len _ =>
      match P.info? elem with
      | some inf => bif decide (0 ≤ i) && decide (i < len) then some (addrPlus b o (i.toNat * inf.size)) else none
      | none => none
    | some (.slice elem), .slice (some ⟨k, 0, some _⟩) len _ =>
      match P.info? elem with
      | some inf => bif decide (0 ≤ i) && decide (i < len) then some (.pointer (some ⟨k, i.toNat * inf.size, some 0⟩)) else none
      | none => none
    | some (.slice elem), .slice (some ⟨k, o + 1, some (_ + 1)⟩) len _ =>
      match P.info? elem with
      | some inf => bif decide (0 ≤ i) && decide (i < len) then some (.pointer (some ⟨k, o + 1 + i.toNat * inf.size, some 0⟩)) else none
      | none => none
    | some (.array len elem), .pointer (some ⟨k, o, some z⟩) =>
      match P.info? elem with
      | some inf => bif decide (0 ≤ i) && decide (i < len) then some (.pointer (some ⟨k, o + i.toNat * inf.size, some z⟩)) else none
      | none => none
    | _, _ => none
  | _ => none

def pickV (c : Bool) : Value → Value → Option (Value × Bool)
  | .bool x, .bool y => some (.bool (bif c then x else y), true)
  | .bool x, _ => some (.bool x, c)
  | _, .bool y => some (.bool y, !c)
  | _, _ => none

inductive W where
  | no
  | at_ (b : Nat) (cs : List Value)
  | all (h : Heap)

structure OpRes where
  val : Value
  g : Bool        -- defined?
  w : W
  ok : Bool

def flatB : Value → Bool
  | .bool _ | .int _ _ | .string _ | .float _ _ => true
  | .slice (some ⟨_, _, some _⟩) _ _ => true
  | _ => false
def plainB : Value → Bool
  | .bool _ | .int _ _ | .string _ | .float _ _ | .nilFunc | .nilIface => true
  | .slice (some ⟨_, _, some _⟩) _ _ => true
  | .func _ f c => f.toList.isEmpty && c.toList.isEmpty
  | .agg cs => cs.toList.all flatB
  | .tuple cs => cs.toList.all fun v => match v with
      | .agg cs => cs.toList.all flatB
      | v => flatB v
  | _ => false

abbrev CallD := FuncId → List Value → Heap → Option (Value × Heap × Bool)

def mk (v : Option Value) (g : Bool) : Option OpRes :=
  match v with
  | some v => some ⟨v, true, .no, g⟩
  | none => none

def mk2 (v : Option (Value × Bool)) (g : Bool) : Option OpRes :=
  match v with
  | some (v, k) => some ⟨v, true, .no, g && k⟩
  | none => none

/-! the same, where an index may be open: what must hold of it is told beside the answer -/
def inB (i : Int) (n : Nat) : Bool := decide (0 ≤ i) && decide (i < (n : Int))
/-- a cell, as its type tells it -/
def intOf : Value → Int
  | .int _ z => z
  | _ => 0
def numOf : Value → Nat
  | .float _ b => b
  | _ => 0
def boolOf : Value → Bool
  | .bool b => b
  | _ => false
def txtOf : Value → ByteArray
  | .string s => s
  | _ => ByteArray.empty
def tyV : TypeDesc → Value → Value
  | .int k, v => .int k (intOf v)
  | .float k, v => .float k (numOf v)
  | .bool, v => .bool (boolOf v)
  | .string, v => .string (txtOf v)
  | _, v => v
def kiB : IntKind → IntKind → Bool
  | .i8, .i8 | .i16, .i16 | .i32, .i32 | .i64, .i64 | .u8, .u8 | .u16, .u16 | .u32, .u32 | .u64, .u64 => true
  | _, _ => false
def isIntB (k : IntKind) : Value → Bool
  | .int k' _ => kiB k k'
  | _ => false
def isNumB (k : FloatKind) : Value → Bool
  | .float .f32 _ => (match k with | .f32 => true | .f64 => false)
  | .float .f64 _ => (match k with | .f32 => false | .f64 => true)
  | _ => false
def isBoolB : Value → Bool
  | .bool _ => true
  | _ => false
def isTxtB : Value → Bool
  | .string _ => true
  | _ => false
def tyB : TypeDesc → Value → Bool
  | .int k, v => isIntB k v
  | .float k, v => isNumB k v
  | .bool, v => isBoolB v
  | .string, v => isTxtB v
  | _, _ => true
def cellF (d : TypeDesc) (cs : List Value) (o : Nat) : Value × Bool := (tyV d (cs.getD o undef), cs[o]?.isSome && tyB d (cs.getD o undef))
def partF (cs : List Value) (o n : Nat) : Value × Bool := (.agg ((cs.drop o).take n).toArray, Nat.ble (o + n) cs.length)
def lookF (P : Program) (t : TypeId) (cs : List Value) (o : Nat) : Option (Value × Bool) :=
  match P.underlying t with
  | some d => bif isAggD d then (match P.info? t with
      | some i => some (partF cs o i.size)
      | none => none) else some (cellF d cs o)
  | none => none
/-! ### aggregates compared by typed cells: a Boolean, and a flag that says that the cells are there and of their kinds -/
def eqFieldsT (P : Program) (go : TypeId → Value → Value → Option (Bool × Bool)) (xs ys : List Value) : List Field → Option (Bool × Bool)
  | [] => some (true, true)
  | f :: r => bif f.name == "_" then none else
    match lookF P f.type xs f.offset with
    | some (a, k) => match lookF P f.type ys f.offset with
      | some (b, k') => match go f.type a b with
        | some (c, g) => match eqFieldsT P go xs ys r with
          | some (q, g') => some (c && q, (k && k') && (g && g'))
          | none => none
        | none => none
      | none => none
    | none => none
def eqElemsT (P : Program) (go : Value → Value → Option (Bool × Bool)) (e : TypeId) (size : Nat) (xs ys : List Value) : Nat → Nat → Option (Bool × Bool)
  | 0, _ => some (true, true)
  | m + 1, i =>
    match lookF P e xs (i * size) with
    | some (a, k) => match lookF P e ys (i * size) with
      | some (b, k') => match go a b with
        | some (c, g) => match eqElemsT P go e size xs ys m (i + 1) with
          | some (q, g') => some (c && q, (k && k') && (g && g'))
          | none => none
        | none => none
      | none => none
    | none => none
def eqT (P : Program) : Nat → TypeId → Value → Value → Option (Bool × Bool)
  | 0, _, _, _ => none
  | d + 1, t, x, y => match P.underlying t with
    | some .bool => (match x, y with | .bool a, .bool b => some (a == b, true) | _, _ => none)
    | some (.int _) => (match x, y with | .int k a, .int k' b => bif decide (k = k') then some (a == b, true) else none | _, _ => none)
    | some (.float _) => (match x, y with | .float k a, .float k' b => bif sameK k k' then some (feq k a b, true) else none | _, _ => none)
    | some .string => (match x, y with | .string a, .string b => some (a == b, true) | _, _ => none)
    | some (.struct fs) => (match x, y with
      | .agg xs, .agg ys => bif P.stoodInHeld t then none else eqFieldsT P (eqT P d) xs.toList ys.toList fs.toList
      | _, _ => none)
    | some (.array n e) => (match x, y with
      | .agg xs, .agg ys => (match P.info? e with
        | some i => eqElemsT P (eqT P d e) e i.size xs.toList ys.toList n 0
        | none => none)
      | _, _ => none)
    | _ => none
/-- a struct, to be compared as a whole -/
def isStrA (P : Program) (t : TypeId) : Value → Bool
  | .agg _ => match P.underlying t with
    | some (.struct _) => true
    | _ => false
  | _ => false
def isEqB : BinOp → Bool
  | .eql | .neq => true
  | _ => false
def binT (P : Program) (op : BinOp) (t : TypeId) (x y : Value) : Option (Value × Bool) :=
  bif P.eqGuardType P.depth t then none else
  match x, y with
  | .agg _, .agg _ => match eqT P 6 t x y with
    | some (b, k) => match op with
      | .eql => some (.bool b, k)
      | .neq => some (.bool (!b), k)
      | _ => none
    | none => none
  | _, _ => none
def loadF (P : Program) (chk : Nat → Bool) (h : Heap) (t : TypeId) : Value → Option (Value × Bool)
  | .pointer (some ⟨b, o, none⟩) => bif chk b then (match h.getD b none with
    | some cs => lookF P t cs o
    | none => none) else none
  | .pointer (some ⟨k, o, some _⟩) => lookF P t (Frn.row k) o
  | _ => none
def storeF (P : Program) (chk : Nat → Bool) (h : Heap) (t : TypeId) (a x : Value) : Option (Nat × List Value × Bool) :=
  match a with
  | .pointer (some ⟨b, o, none⟩) =>
    bif chk b then
    match h.getD b none with
    | some cs => match P.info? t with
      | some i => some (b, setRow cs o x.cells.toList, Nat.beq x.cells.toList.length i.size && x.cells.toList.all scalarB && Nat.ble (o + x.cells.toList.length) cs.length)
      | none => none
    | none => none
    else none
  | _ => none
def idxF (P : Program) (t : TypeId) (x ix : Value) : Option (Value × Bool) :=
  match ix with
  | .int _ i =>
    match P.underlying t, x with
    | some (.array len elem), .agg cs =>
      match P.info? elem with
      | some inf => match P.underlying elem with
        | some d => bif isAggD d then some (.agg ((cs.toList.drop (i.toNat * inf.size)).take inf.size).toArray, inB i len) else some ((cellF d cs.toList (i.toNat * inf.size)).1, inB i len && (cellF d cs.toList (i.toNat * inf.size)).2)
        | none => none
      | none => none
    | some .string, .string s => some (.int .u8 ((s.data.toList.getD i.toNat 0).toNat : Nat), inB i s.size)
    | _, _ => none
  | _ => none
def idxAddrF (P : Program) (t : TypeId) (x ix : Value) : Option (Value × Bool) :=
  match ix with
  | .int _ i =>
    match P.underlying t, x with
    | some (.array len elem), .pointer (some ⟨b, o, none⟩) =>
      match P.info? elem with
      | some inf => some (addrPlus b o (i.toNat * inf.size), inB i len)
      | none => none
    | some (.slice elem), .slice (some ⟨b, o, none⟩) len _ =>
      match P.info? elem with
      | some inf => some (addrPlus b o (i.toNat * inf.size), inB i len)
      | none => none
    | some (.slice elem), .slice (some ⟨k, 0, some _⟩) len _ =>
      match P.info? elem with
      | some inf => some (.pointer (some ⟨k, i.toNat * inf.size, some 0⟩), inB i len)
      | none => none
    | some (.slice elem), .slice (some ⟨k, o + 1, some (_ + 1)⟩) len _ =>
      match P.info? elem with
      | some inf => some (.pointer (some ⟨k, o + 1 + i.toNat * inf.size, some 0⟩), inB i len)
      | none => none
    | some (.array len elem), .pointer (some ⟨k, o, some z⟩) =>
      match P.info? elem with
      | some inf => some (.pointer (some ⟨k, o + i.toNat * inf.size, some z⟩), inB i len)
      | none => none
    | _, _ => none
  | _ => none

abbrev Orc := FuncId → Option (List Value → Option (Value × Bool))

/-- the functions: 'ext': bodyless ones; 'call': those with a body -/
structure Env where
  P : Program
  ext : Orc
  call : CallD
  rd : Bool       -- may a call read memory where the order is drawn?
  stb : Bool      -- do calls answer the same where a new block has been laid?

/-! slices, lengths, composites -/
def boundsD (len cap : Nat) (lo hi : Option Value) : Option (Nat × Nat) :=
  match (match hi with
    | none => some len
    | some (.int _ i) => bif decide (0 ≤ i) && decide (i ≤ cap) then some i.toNat else none
    | _ => none) with
  | none => none
  | some h => match lo with
    | none => some (0, h)
    | some (.int _ i) => bif decide (0 ≤ i) && decide (i ≤ h) then some (i.toNat, h) else none
    | _ => none

/-- a slice may have more room than is told: then a cut at its very end is not told -/
def okSl (cap l size : Nat) : Bool := Nat.beq l 0 || (Nat.blt l cap && Nat.blt 0 size)
def sliceD (P : Program) (t : TypeId) (x : Value) (lo hi : Option Value) : Option Value :=
  match P.underlying t, x with
  | some (.array n e), .pointer (some ⟨b, o, none⟩) =>
    match boundsD n n lo hi with
    | some (l, h) => match P.info? e with
      | some i => some (.slice (some ⟨b, bif Nat.beq n l then o else o + l * i.size, none⟩) (h - l) (n - l))
      | none => none
    | none => none
  | some (.slice e), .slice (some ⟨b, o, none⟩) len cap =>
    match boundsD len cap lo hi with
    | some (l, h) => match P.info? e with
      | some i => bif okSl cap l i.size then some (.slice (some ⟨b, bif Nat.beq cap l then o else o + l * i.size, none⟩) (h - l) (cap - l)) else none
      | none => none
    | none => none
  | some (.slice e), .slice (some ⟨k, o, some (_ + 1)⟩) len cap =>
    match boundsD len len lo hi with
    | some (l, h) => match P.info? e with
      | some i => some (.slice (some ⟨k, o + l * i.size, some 1⟩) (h - l) cap)
      | none => none
    | none => none
  | some .string, .string s =>
    match boundsD s.size s.size lo hi with
    | some (l, h) => some (.string (s.extract l h))
    | none => none
  | _, _ => none

/-- the same, where a bound may be open: what must hold is told beside the answer -/
def boundsF (len cap : Nat) (lo hi : Option Value) : Option (Nat × Nat × Bool) :=
  match (match hi with
    | none => some (len, true)
    | some (.int _ i) => some (i.toNat, decide (0 ≤ i) && decide (i ≤ cap))
    | _ => none) with
  | none => none
  | some (h, k) => match lo with
    | none => some (0, h, k)
    | some (.int _ i) => some (i.toNat, h, k && (decide (0 ≤ i) && decide (i ≤ h)))
    | _ => none
def sliceF (P : Program) (t : TypeId) (x : Value) (lo hi : Option Value) : Option (Value × Bool) :=
  match P.underlying t, x with
  | some (.array n e), .pointer (some ⟨b, o, none⟩) =>
    match boundsF n n lo hi with
    | some (l, h, k) => match P.info? e with
      | some i => some (.slice (some ⟨b, bif Nat.beq n l then o else o + l * i.size, none⟩) (h - l) (n - l), k)
      | none => none
    | none => none
  | some (.slice e), .slice (some ⟨b, o, none⟩) len cap =>
    match boundsF len cap lo hi with
    | some (l, h, k) => match P.info? e with
      | some i => some (.slice (some ⟨b, bif Nat.beq cap l then o else o + l * i.size, none⟩) (h - l) (cap - l), okSl cap l i.size && k)
      | none => none
    | none => none
  | some (.slice e), .slice (some ⟨t, o, some (_ + 1)⟩) len cap =>
    match boundsF len len lo hi with
    | some (l, h, k) => match P.info? e with
      | some i => some (.slice (some ⟨t, o + l * i.size, some 1⟩) (h - l) cap, k)
      | none => none
    | none => none
  | some .string, .string s =>
    match boundsF s.size s.size lo hi with
    | some (l, h, k) => some (.string (s.extract l h), k)
    | none => none
  | _, _ => none

def lenD (P : Program) (t : TypeId) (x : Value) : Option Value :=
  match P.underlying t, x with
  | some .string, .string s => some (.int .i64 s.size)
  | some (.array n _), _ => some (.int .i64 n)
  | some (.slice _), .slice _ n _ => some (.int .i64 n)
  | _, _ => none

def fieldD (P : Program) (t : TypeId) (x : Value) (f : Nat) : Option Value :=
  match P.underlying t, x with
  | some (.struct fs), .agg cs => match fs[f]? with
    | some fd => partD P fd.type cs.toList fd.offset
    | none => none
  | _, _ => none

def fieldF (P : Program) (t : TypeId) (x : Value) (f : Nat) : Option (Value × Bool) :=
  match P.underlying t, x with
  | some (.struct fs), .agg cs => match fs[f]? with
    | some fd => match P.underlying fd.type with
      | some d => bif isAggD d then (match P.info? fd.type with
        | some i => some (.agg ((cs.toList.drop fd.offset).take i.size).toArray, true)
        | none => none) else some (cellF d cs.toList fd.offset)
      | none => none
    | none => none
  | _, _ => none

def fieldAddrD (P : Program) (t : TypeId) (x : Value) (f : Nat) : Option Value :=
  match P.underlying t, x with
  | some (.struct fs), .pointer (some ⟨b, o, none⟩) => match fs[f]? with
    | some fd => match P.info? fd.type with
      | some i => bif Nat.beq i.size 0 then none else some (addrPlus b o fd.offset)
      | none => none
    | none => none
  | some (.struct fs), .pointer (some ⟨k, o, some z⟩) => match fs[f]? with
    | some fd => match P.info? fd.type with
      | some i => bif Nat.beq i.size 0 then none else some (.pointer (some ⟨k, o + fd.offset, some z⟩))
      | none => none
    | none => none
  | _, _ => none

/-- the parts laid into the zero cells -/
def fillD (place : Nat → Option (Nat × Nat)) (cells : List Value) : List (Nat × Value) → Option (List Value)
  | [] => some cells
  | (i, v) :: rest =>
    match place i with
    | none => none
    | some (off, size) =>
      bif Nat.beq v.cells.toList.length size && Nat.ble (off + v.cells.toList.length) cells.length then fillD place (setRow cells off v.cells.toList) rest else none

def placesD (P : Program) : List Field → Option (List (Nat × Nat))
  | [] => some []
  | f :: r => match P.info? f.type with
    | some i => match placesD P r with
      | some l => some ((f.offset, i.size) :: l)
      | none => none
    | none => none

def buildD (P : Program) (t : TypeId) (parts : List (Nat × Value)) : Option Value :=
  match P.info? t with
  | some inf => match inf.zero with
    | some z => bif z.cells.toList.all canonB then
        match P.underlying t with
        | some (.struct fs) => match placesD P fs.toList with
          | some pl => (fillD (fun i => pl[i]?) z.cells.toList parts).map fun cs => .agg cs.toArray
          | none => none
        | some (.array _ e) => match P.info? e with
          | some i => (fillD (fun j => some (j * i.size, i.size)) z.cells.toList parts).map fun cs => .agg cs.toArray
          | none => none
        | _ => none
      else none
    | none => none
  | none => none

/-- a slice's cells; its type is given -/
def rowD (P : Program) (t : TypeId) (len : Nat) (parts : List (Nat × Value)) : Option (List Value) :=
  match P.underlying t with
  | some (.slice e) => match P.info? e with
    | some i => bif Nat.ble (len * i.size) 16777216 then
        bif Nat.beq (len * i.size) 0 then fillD (fun j => some (j * i.size, i.size)) [] parts else
        match i.zero with
        | some z => bif z.cells.toList.all canonB && Nat.beq (z.cells.size) i.size && Nat.blt 0 z.cells.size then
            fillD (fun j => some (j * i.size, i.size)) ((List.range (len * i.size)).map fun k => z.cells[k % z.cells.size]!) parts else none
        | none => none
      else none
    | none => none
  | _ => none

/-- no pointer from block 'n' on ('.complex' stands for a pointer of which nothing is known) -/
def lowV (n : Nat) : Value → Bool
  | .pointer (some ⟨b, _, none⟩) => Nat.blt b n
  | .slice (some ⟨b, _, none⟩) _ _ => Nat.blt b n
  | .slice (some ⟨_, _, some _⟩) _ _ => true
  | .pointer (some ⟨_, _, some _⟩) => true
  | .func _ f c => f.toList.isEmpty && c.toList.isEmpty
  | .bool _ | .int _ _ | .string _ | .float _ _ | .nilFunc | .nilIface | .pointer none | .slice none _ _ | .map none | .complex _ _ _ => true
  | _ => false
def lowH (n : Nat) (h : Heap) : Bool := h.all fun r => match r with
  | some cs => cs.all (lowV n)
  | none => true
/-- behind a call: without the blocks of its own, if nothing points to them -/
def cutH (v : Value) (n : Nat) (h : Heap) : Heap := bif Nat.ble h.length n then h else bif plainB v && lowH n (h.take n) then h.take n else h

/-- the blocks that were there are as they were -/
def sameHeap (h h' : Heap) : Bool := @decide (h'.take h.length = h) (Classical.propDecidable _)
theorem sameHeap_eq {h h' : Heap} (e : sameHeap h h' = true) : h'.take h.length = h := @of_decide_eq_true _ (Classical.propDecidable _) e
theorem more_take {h h' : Heap} : (h ++ h'.drop h.length).take h.length = h := List.take_left
theorem more_eq {h h' : Heap} (e : h'.take h.length = h) : h ++ h'.drop h.length = h' := by
  conv => rhs; rw [← List.take_append_drop h.length h', e]
theorem sameHeap_of {h h' : Heap} (e : h'.take h.length = h) : sameHeap h h' = true := @decide_eq_true _ (Classical.propDecidable _) e

/-- what was there stays, told at once where calls only add memory -/
def addF (b : Bool) (h h' : Heap) : Bool := bif b then true else sameHeap h h'
theorem addF_of {b : Bool} {h h' : Heap} (e : h'.take h.length = h) : addF b h h' = true := by
  cases b
  · exact sameHeap_of e
  · rfl
theorem addF_eq {b : Bool} {h h' : Heap} (hs : b = true → h'.take h.length = h) (e : addF b h h' = true) : h'.take h.length = h := by
  cases b
  · exact sameHeap_eq e
  · exact hs rfl
/-- a call that knows of the heap: where the order is drawn, what was there must stay -/
def callH (E : Env) (draw : Bool) (h : Heap) (id : FuncId) (args : List Value) (g : Bool) : Option OpRes :=
  match E.call id args h with
  | some (v, h', k) =>
    bif draw then (bif E.rd then some ⟨v, true, bif plainB v then .no else .all (h ++ h'.drop h.length), (g && k) && addF E.stb h h'⟩ else none)
    else some ⟨v, true, .all (bif E.stb then h' else cutH v h.length h'), g && k⟩
  | none => none
def callD (E : Env) (draw : Bool) (h : Heap) (f : Value) (args : List Value) (g : Bool) : Option OpRes :=
  match f with
  | .func (.func id) first captured =>
    match E.ext id with
    | some e => match e (first.toList ++ args ++ captured.toList) with
      | some (v, k) => some ⟨v, true, .no, g && k⟩
      | none => none
    | none =>
      bif (first.toList ++ args ++ captured.toList).all plainB then
        match E.call id (first.toList ++ args ++ captured.toList) [] with
        | some (v, _, k) => bif plainB v then some ⟨v, true, .no, g && k⟩ else callH E draw h id (first.toList ++ args ++ captured.toList) g
        | none => none
      else callH E draw h id (first.toList ++ args ++ captured.toList) g
  | _ => none

def nilD : Value → Option Value
  | .pointer (some a) => some (.pointer (some a))
  | .func (.func f) fs cs => some (.func (.func f) fs cs)
  | _ => none

def lenOp (P : Program) (tys : List TypeId) (xs : List (Value × Bool)) : Option OpRes :=
  match tys with
  | ty :: _ => match xs with
    | [p] => mk (lenD P ty p.1) p.2
    | _ => none
  | [] => none

def fmin (k : FloatKind) (a b : Nat) : Nat :=
  match k.format.order a b with
  | none => qn k
  | some .lt => a
  | some .gt => b
  | some .eq => if (k.decode a).neg then a else b
def fmax (k : FloatKind) (a b : Nat) : Nat :=
  match k.format.order a b with
  | none => qn k
  | some .lt => b
  | some .gt => a
  | some .eq => if (k.decode a).neg then b else a
/-- the lesser or the greater one -/
def mmD (up : Bool) : Value → Value → Option Value
  | .float k a, .float k' b => bif sameK k k' then some (.float k (bif up then fmax k a b else fmin k a b)) else none
  | .int k a, .int _ b => some (.int k (bif up then (if b > a then b else a) else (if b < a then b else a)))
  | _, _ => none
def mmOp (up : Bool) (xs : List (Value × Bool)) : Option OpRes :=
  match xs with
  | [p, q] => mk (mmD up p.1 q.1) (p.2 && q.2)
  | _ => none

def biD (P : Program) (b : Builtin) (tys : List TypeId) (xs : List (Value × Bool)) : Option OpRes :=
  match b with
  | .len => lenOp P tys xs
  | .min => mmOp false xs
  | .max => mmOp true xs
  | _ => none

/-! append: the row moves to a new block; the old block is dead (an empty row stands for it) -/
def partsF (h : Heap) (size : Nat) : Value → Option (Nat × List Value × Bool)
  | .slice (some ⟨b, o, none⟩) m _ => match h.getD b none with
    | some cs => some (m, (cs.drop o).take (m * size), Nat.ble (o + m * size) cs.length)
    | none => none
  | .slice (some ⟨k, 0, some 0⟩) m _ => some (m, (Frn.row k).take (m * size), Nat.ble (m * size) (Frn.row k).length)
  | _ => none
def appOk (i : TypeInfo) (z : Value) (n m : Nat) (news : List Value) : Bool :=
  Nat.blt 0 m && (Nat.blt 0 i.size && (Nat.beq z.cells.size i.size && (news.all scalarB && (Nat.ble ((n + m) * i.bytes) 140737488355328 && Nat.ble (n + m) 9223372036854775807))))
/-- what comes: the slice, the block that dies, the new row -/
def appF (P : Program) (h : Heap) (t : TypeId) (s x : Value) : Option (Value × Option Nat × List Value × Bool) :=
  match P.underlying t with
  | some (.slice e) => match P.info? e with
    | some i => match i.zero with
      | some z => match partsF h i.size x with
        | some (m, news, k) => match s with
          | .slice none 0 0 => some (.slice (some ⟨h.length, 0, none⟩) m m, none, news, appOk i z 0 m news && k)
          | .slice (some ⟨b, 0, none⟩) l c =>
            bif Nat.beq c 0 then some (.slice (some ⟨h.length, 0, none⟩) m m, none, news, Nat.beq l 0 && (appOk i z 0 m news && k)) else
            match h.getD b none with
            | some cs => some (.slice (some ⟨h.length, 0, none⟩) (l + m) (l + m), some b, cs ++ news, (Nat.beq l c && Nat.beq cs.length (l * i.size)) && (appOk i z l m news && k))
            | none => none
          | _ => none
        | none => none
      | none => none
    | none => none
  | _ => none
def killH (h : Heap) : Option Nat → Heap
  | none => h
  | some b => h.set b (some [])
def isApp : Builtin → Bool
  | .append => true
  | _ => false
def appE (E : Env) (draw : Bool) (h : Heap) (tys : List TypeId) (xs : List (Value × Bool)) : Option OpRes :=
  match tys, xs with
  | [t, t2], [s, x] => bif Nat.beq t t2 then
      (match appF E.P h t s.1 x.1 with
      | some (v, kill, row, k) =>
        bif draw then (bif E.rd then (match kill with
          | none => some ⟨v, true, .all (h ++ [some row]), (s.2 && x.2) && k⟩
          | some _ => none) else none)
        else some ⟨v, true, .all (killH h kill ++ [some row]), (s.2 && x.2) && k⟩
      | none => none) else none
  | _, _ => none

/-! interface values: of empty structs alone -/
def emptyA : Value → Bool
  | .agg cs => cs.toList.isEmpty
  | _ => false
def mkIfaceD (P : Program) (t : TypeId) (x : Value) : Option Value :=
  match P.underlying t with
  | some (.interface _) => none
  | some _ => bif emptyA x then some (.iface t (.agg #[])) else none
  | none => none
def asrtD (P : Program) (xt t : TypeId) (x : Value) : Option Value :=
  match x with
  | .nilIface | .iface _ _ => bif canonB x then
      match pureS P (Instr.typeAssert x xt t true) with
      | some (.tuple cs) => bif cs.toList.all canonB then some (.tuple cs) else none
      | _ => none
    else none
  | _ => none
def methD (P : Program) (x : Value) (name : String) : Option (FuncId × Value) :=
  match x with
  | .iface t v => bif emptyA v then pureS P (method (P.types.size + Made.depth) t v name) else none
  | _ => none
/-- a method of such a value, without arguments -/
def invD (E : Env) (x : Value) (name : String) (args : List Value) (g : Bool) : Option OpRes :=
  match methD E.P x name with
  | some (f, rc) =>
    bif emptyA rc && args.isEmpty then
      match E.ext f with
      | some _ => none
      | none => match E.call f [.agg #[]] [] with
        | some (v, _, k) => bif plainB v then some ⟨v, true, .no, g && k⟩ else none
        | none => none
    else none
  | none => none

/-- a new row of zeros, all of it in use -/
def makeD (P : Program) (t : TypeId) (l c : Value) : Option (Nat × List Value) :=
  match l, c with
  | .int _ (.ofNat n), .int _ (.ofNat m) =>
    match P.underlying t with
    | some (.slice e) => match P.info? e with
      | some i => match i.zero with
        | some z => bif Nat.beq n m && Nat.ble (i.bytes * n) 281474976710656 && Nat.ble n 9223372036854775807 && z.cells.toList.all canonB && Nat.blt 0 z.cells.size then
            some (n, (List.range (n * i.size)).map fun k => z.cells[k % z.cells.size]!) else none
        | none => none
      | none => none
    | _ => none
  | _, _ => none

/-- the same, of a length that may be open -/
def makeF (P : Program) (t : TypeId) (l c : Value) : Option (Nat × List Value × Bool) :=
  match l, c with
  | .int _ (.ofNat n), .int _ (.ofNat m) =>
    match P.underlying t with
    | some (.slice e) => match P.info? e with
      | some i => match i.zero with
        | some z => some (n, (List.range (n * i.size)).map fun k => z.cells[k % z.cells.size]!, Nat.beq n m && Nat.ble (i.bytes * n) 281474976710656 && Nat.ble n 9223372036854775807 && z.cells.toList.all canonB && Nat.blt 0 z.cells.size)
        | none => none
      | none => none
    | _ => none
  | _, _ => none

/-- the number is free for a new block -/
def freshB (h : Heap) (nid : Nat) : Bool := Nat.blt nid h.length && (h.getD nid none).isNone

def opD (E : Env) (draw : Bool) (chk : Nat → Bool) (nid : Nat) (t : List (Value × Bool)) (h : Heap) (o : Op) : Option OpRes :=
  match o with
  | .move x | .assign x => some ⟨(evl t x).1, true, .no, (evl t x).2⟩
  | .pick c a b =>
    match evl t c with
    | (.bool s, gc) => match pickV s (evl t a).1 (evl t b).1 with
      | some (v, k) => some ⟨v, true, .no, gc && ((bif s then (evl t a).2 else (evl t b).2) && k)⟩
      | none => none
    | _ => none
  | .alloc e => match E.P.info? e with
    | some i => match i.zero with
      | some z => bif freshB h nid && z.cells.toList.all canonB then some ⟨.pointer (some ⟨nid, 0, none⟩), true, .at_ nid z.cells.toList, true⟩ else none
      | none => none
    | none => none
  | .box _ x => bif freshB h nid then some ⟨.pointer (some ⟨nid, 0, none⟩), true, .at_ nid (evl t x).1.cells.toList, (evl t x).2⟩ else none
  | .load ty a => mk2 (loadF E.P chk h ty (evl t a).1) (evl t a).2
  | .store ty a x =>
    match storeF E.P chk h ty (evl t a).1 (evl t x).1 with
    | some (b, cs, k) => some ⟨undef, false, .at_ b cs, ((evl t a).2 && (evl t x).2) && k⟩
    | none => none
  | .binOp op ty x y _ => bif isStrA E.P ty (evl t x).1 then mk2 (binT E.P op ty (evl t x).1 (evl t y).1) ((evl t x).2 && (evl t y).2) else mk (binD E.P op ty (evl t x).1 (evl t y).1) ((evl t x).2 && (evl t y).2)
  | .unOp op _ x => mk (unD E.P op (evl t x).1) (evl t x).2
  | .convert s d x => match cvD E.P s d (evl t x).1 with
    | some (v, k) => some ⟨v, true, .no, (evl t x).2 && k⟩
    | none => none
  | .index ty x ix => mk2 (idxF E.P ty (evl t x).1 (evl t ix).1) ((evl t x).2 && (evl t ix).2)
  | .indexAddr ty x ix => mk2 (idxAddrF E.P ty (evl t x).1 (evl t ix).1) ((evl t x).2 && (evl t ix).2)
  | .extract x i => match (evl t x).1 with
    | .tuple vs => mk vs.toList[i]? (evl t x).2
    | _ => none
  | .slice ty x lo hi none =>
    mk2 (sliceF E.P ty (evl t x).1 (lo.map fun y => (evl t y).1) (hi.map fun y => (evl t y).1)) ((evl t x).2 && (lo.toList.all fun y => (evl t y).2) && (hi.toList.all fun y => (evl t y).2))
  | .makeFunc fn first captured => some ⟨.func fn (first.toList.map fun x => (evl t x).1).toArray (captured.toList.map fun x => (evl t x).1).toArray, true, .no, (first.toList.all fun x => (evl t x).2) && captured.toList.all fun x => (evl t x).2⟩
  | .nilCheck x => mk (nilD (evl t x).1) (evl t x).2
  | .field ty x f => mk2 (fieldF E.P ty (evl t x).1 f) (evl t x).2
  | .fieldAddr ty x f => mk (fieldAddrD E.P ty (evl t x).1 f) (evl t x).2
  | .build ty parts => mk (buildD E.P ty (parts.toList.map fun p => (p.1, (evl t p.2).1))) (parts.toList.all fun p => (evl t p.2).2)
  | .buildSlice ty len parts => bif freshB h nid then
      match rowD E.P ty len (parts.toList.map fun p => (p.1, (evl t p.2).1)) with
      | some cs => some ⟨.slice (some ⟨nid, 0, none⟩) len len, true, .at_ nid cs, parts.toList.all fun p => (evl t p.2).2⟩
      | none => none
    else none
  | .call c => match c.callee with
    | .builtin b => bif isApp b then appE E draw h c.argTypes.toList (c.args.toList.map (evl t)) else biD E.P b c.argTypes.toList (c.args.toList.map (evl t))
    | .value f => callD E draw h (evl t f).1 (c.args.toList.map fun x => (evl t x).1) ((evl t f).2 && c.args.toList.all fun x => (evl t x).2)
    | .invoke x name => invD E (evl t x).1 name (c.args.toList.map fun x => (evl t x).1) (evl t x).2
  | .makeInterface ty x => mk (mkIfaceD E.P ty (evl t x).1) (evl t x).2
  | .typeAssert x xt ty true => mk (asrtD E.P xt ty (evl t x).1) (evl t x).2
  | .makeSlice ty l c => bif freshB h nid then
      match makeF E.P ty (evl t l).1 (evl t c).1 with
      | some (n, cs, k) => some ⟨.slice (some ⟨nid, 0, none⟩) n n, true, .at_ nid cs, ((evl t l).2 && (evl t c).2) && k⟩
      | none => none
    else none
  | _ => none

def isStore : Op → Bool
  | .store .. => true
  | _ => false
def isNew : Op → Bool
  | .alloc _ | .box _ _ | .buildSlice .. | .makeSlice .. => true
  | _ => false

/-- is the guard's slot true as wanted? -/
def guardD (ops : List Oper) (t : List (Value × Bool)) : Option (Nat × Bool) → Bool
  | none => true
  | some (j, want) =>
    match ops[j]? with
    | some oj => match oj.dst with
      | some d => match t.getD d (undef, false) with
        | (.bool b, g) => g && (b == want)
        | _ => false
      | none => false
    | none => false

def putW (h : Heap) : W → Heap
  | .no => h
  | .at_ b cs => h.set b (some cs)
  | .all h' => h'

def putT (t : List (Value × Bool)) (d : Option Tmp) (v : Value × Bool) : List (Value × Bool) :=
  match d with
  | some d => t.set d v
  | none => t

def stepD (E : Env) (draw : Bool) (chk : Nat → Bool) (ops : List Oper) (nid : Nat) (o : Oper) (s : St) : Option St :=
  match o.guard with
  | none => match opD E draw chk nid s.tmps s.heap o.op with
    | some r => some ⟨putT s.tmps o.dst (r.val, r.g), putW s.heap r.w, r.ok && s.ok⟩
    | none => none
  | some gd =>
    match opD E draw chk nid s.tmps s.heap o.op with
    | some ⟨v, g, .no, k⟩ => some ⟨putT s.tmps o.dst (v, guardD ops s.tmps (some gd) && g), s.heap, (k || !guardD ops s.tmps (some gd)) && s.ok⟩
    | some ⟨v, g, .all h', k⟩ => some ⟨putT s.tmps o.dst (v, guardD ops s.tmps (some gd) && g), bif guardD ops s.tmps (some gd) then h' else s.heap, (k || !guardD ops s.tmps (some gd)) && s.ok⟩
    | _ => some ⟨putT s.tmps o.dst (undef, false), s.heap, !guardD ops s.tmps (some gd) && s.ok⟩

/-- what comes ahead of each operation, as bits -/
def hard (e : Edge) : Bool := Region.binds .any e
def maskOf (ms : List Nat) : List Edge → Nat
  | [] => 0
  | e :: r => bif hard e then (2 ^ e.on ||| ms.getD e.on 0) ||| maskOf ms r else maskOf ms r
def masks : List Oper → List Nat → List Nat
  | [], ms => ms
  | o :: r, ms => masks r (ms ++ [maskOf ms o.after.toList])

def chkD (draw : Bool) (ms : List Nat) (lo i b : Nat) : Bool :=
  !draw || (Nat.blt b lo || (ms.getD i 0).testBit (b - lo))

def runD (E : Env) (draw : Bool) (ops : List Oper) (ms : List Nat) (lo : Nat) : Nat → List Oper → St → Option St
  | _, [], s => some s
  | i, o :: r, s => match stepD E draw (chkD draw ms lo i) ops (lo + i) o s with
    | some s' => runD E draw ops ms lo (i + 1) r s'
    | none => none

def hasNew (ops : List Oper) : Bool := ops.any fun o => isNew o.op

def isCallV : Op → Bool
  | .call _ => true
  | _ => false
/-- whatever order is drawn, no call stands beside a store or another call: one of both comes first -/
def laxI (ms : List Nat) (j : Nat) : Nat → List Oper → Bool
  | _, [] => true
  | i, o :: r => (bif isCallV o.op then Nat.beq i j || (ms.getD i 0).testBit j || (ms.getD j 0).testBit i else true) && laxI ms j (i + 1) r
def laxJ (ms : List Nat) (ops : List Oper) : Nat → List Oper → Bool
  | _, [] => true
  | j, p :: r => (bif isStore p.op || isCallV p.op then laxI ms j 0 ops else true) && laxJ ms ops (j + 1) r
def laxB (ops : List Oper) : Bool := bif hasNew ops then false else (ops.all fun o => !isCallV o.op || o.guard.isNone) && laxJ (masks ops []) ops 0 ops
def Env.at (E : Env) (b : Bool) : Env := ⟨E.P, E.ext, E.call, b, E.stb⟩
/-- the same, where new blocks are laid: none of them ahead of a call that is not behind it -/
def laxM (ms : List Nat) (i : Nat) : Nat → List Oper → Bool
  | _, [] => true
  | j, p :: r => (bif isNew p.op then Nat.ble i j || (ms.getD i 0).testBit j else true) && laxM ms i (j + 1) r
def laxK (ms : List Nat) (ops : List Oper) : Nat → List Oper → Bool
  | _, [] => true
  | i, o :: r => (bif isCallV o.op then laxM ms i 0 ops else true) && laxK ms ops (i + 1) r
def laxN (ops : List Oper) : Bool := (ops.all fun o => !isCallV o.op || o.guard.isNone) && (laxJ (masks ops []) ops 0 ops && laxK (masks ops []) ops 0 ops)

def regionD (E : Env) (draw : Bool) (ops : List Oper) (s : St) : Option St :=
  bif hasNew ops then runD (E.at (E.stb && (draw && laxN ops))) draw ops (masks ops []) s.heap.length 0 ops { s with heap := s.heap ++ List.replicate ops.length none }
  else runD (E.at (draw && laxB ops)) draw ops (bif draw && laxB ops then [] else masks ops []) s.heap.length 0 ops s

inductive Ex where
  | normal
  | exit (id : Nat)
  | ret

abbrev Ans := Option (Value × Heap × Bool)

def codeK (E : Env) : Nat → Code → St → (Ex → St → Ans) → Ans
  | 0, _, _, _ => none
  | n + 1, c, s, k =>
    match c with
    | .skip => k .normal s
    | .region _ ops draw => match regionD E draw ops.toList s with
      | some s' => k .normal s'
      | none => none
    | .seq a b => codeK E n a s fun
      | .normal, s' => codeK E n b s' k
      | e, s' => k e s'
    | .cond x a b => match evl s.tmps x with
      | (.bool t, g) => bif t then codeK E n a { s with ok := g && s.ok } k else codeK E n b { s with ok := g && s.ok } k
      | _ => none
    | .block id a => codeK E n a s fun
      | .exit j, s' => bif Nat.beq j id then k .normal s' else k (.exit j) s'
      | e, s' => k e s'
    | .loop a => codeK E n a s fun
      | .normal, s' => codeK E n (.loop a) s' k
      | e, s' => k e s'
    | .exit id => k (.exit id) s
    | .scope a => codeK E n a s k
    | .label _ => k .normal s
    | .ret => k .ret s
    | _ => none

def resD (P : Program) (s : St) : ResultVar → Option (Value × Bool)
  | .tmp t => some (s.tmps.getD t (undef, false))
  | .cell a t => match loadD P (fun _ => true) s.heap t (s.tmps.getD a (undef, false)).1 with
    | some v => some (v, (s.tmps.getD a (undef, false)).2)
    | none => none

def resAll (P : Program) (s : St) : List ResultVar → Option (List Value × Bool)
  | [] => some ([], true)
  | r :: rs => match resD P s r with
    | some (v, g) => match resAll P s rs with
      | some (vs, gs) => some (v :: vs, g && gs)
      | none => none
    | none => none

def oneOr : List Value → Value
  | [v] => v
  | vs => .tuple vs.toArray

def finK (P : Program) (fn : Func) : Ex → St → Ans
  | .exit _, _ => none
  | _, s => match resAll P s fn.results.toList with
    | some (vs, g) => some (oneOr vs, s.heap, g && s.ok)
    | none => none

def startS (fn : Func) (args : List Value) (h : Heap) : St :=
  ⟨args.map (fun v => (v, true)) ++ List.replicate (fn.ntmps - args.length) (undef, false), h, true⟩

/-- 'us': the functions that may be entered -/
def funD (P : Program) (ext orc : Orc) (us : List FuncId) (cf : Nat) : Nat → CallD
  | 0 => fun _ _ _ => none
  | d + 1 => fun f args h => match orc f with
    | some g => (match g args with | some (v, k) => some (v, h, k) | none => none)
    | none => bif us.any (Nat.beq f) then
        match P.funcs[f]? with
        | some fn => match fn.body with
          | some c => codeK ⟨P, ext, funD P ext orc us cf d, false, false⟩ cf c (startS fn args h) (finK P fn)
          | none => none
        | none => none
      else match Frn.con f with
        | some g => (match g args h with | some (v, rows, k) => some (v, h ++ rows.map some, k) | none => none)
        | none => none

/-! the static look at a region that draws its order -/
def readsOf (ops : List Oper) (o : Oper) : List Tmp :=
  (o.op.operands.toList.filterMap fun | .tmp t => some t | _ => none) ++
  (match o.guard with
   | some (g, _) => match ops[g]? with
     | some og => match og.dst with
       | some d => [d]
       | none => []
     | none => []
   | none => [])
def isSt : Op → Bool
  | .store .. => true
  | _ => false
def isMem : Op → Bool
  | .store .. | .load .. => true
  | _ => false
def inL (d : Option Tmp) (l : List Tmp) : Bool :=
  match d with
  | some d => l.any (Nat.beq d)
  | none => false
def sameDst (a b : Option Tmp) : Bool :=
  match a, b with
  | some a, some b => Nat.beq a b
  | _, _ => false
def conflict (ops : List Oper) (p o : Oper) : Bool :=
  inL p.dst (readsOf ops o) || inL o.dst (readsOf ops p) || sameDst p.dst o.dst || (isSt p.op && isMem o.op) || (isMem p.op && isSt o.op)
def edgesLt (i : Nat) (es : List Edge) : Bool := es.all fun e => !hard e || Nat.blt e.on i
def pairsOk (ops : List Oper) (m : Nat) (o : Oper) : Nat → List Oper → Bool
  | _, [] => true
  | k, p :: r => (!conflict ops p o || m.testBit k) && pairsOk ops m o (k + 1) r
def orderOk (ops : List Oper) (ms : List Nat) : Nat → List Oper → Bool
  | _, [] => true
  | i, o :: r => edgesLt i o.after.toList && pairsOk ops (ms.getD i 0) o 0 (ops.take i) && orderOk ops ms (i + 1) r
def codeOk : Code → Bool
  | .region _ ops true => orderOk ops.toList (masks ops.toList []) 0 ops.toList
  | .seq a b => codeOk a && codeOk b
  | .cond _ a b => codeOk a && codeOk b
  | .block _ a => codeOk a
  | .loop a => codeOk a
  | .scope a => codeOk a
  | _ => true
def funcOk (P : Program) (f : FuncId) : Bool :=
  match P.funcs[f]? with
  | some fn => match fn.body with
    | some c => codeOk c && !(fn.name == "runtime.NumGoroutine")
    | none => false
  | none => false
end
end Ev
namespace Ev
open Go Ieee

theorem Format.word_mod (f : Format) (neg : Bool) {rung : Nat} (h : rung < f.signWeight) : f.word neg rung % f.signWeight = rung := by
  unfold Format.word
  split
  · rw [Nat.add_mod_left]; exact Nat.mod_eq_of_lt h
  · exact Nat.mod_eq_of_lt h

theorem Format.read_word_notNaN (f : Format) (neg : Bool) {rung : Nat} (h : rung ≤ f.infRung) : (f.read (f.word neg rung)).isNaN = false := by
  have hlt : rung < f.signWeight := Nat.lt_of_le_of_lt h f.infRung_lt
  unfold Format.read
  simp only [Format.word_mod f neg hlt]
  split
  · rfl
  · split
    · rfl
    · split
      · rfl
      · omega

theorem Format.write_notNaN (f : Format) {d : Datum} (h : d.isNaN = false) : (f.read (f.write d)).isNaN = false := by
  cases d with
  | number neg mag place =>
    unfold Format.write Format.nearest
    simp only
    split
    · exact Format.read_word_notNaN f _ (Nat.zero_le _)
    · exact Format.read_word_notNaN f _ (Nat.min_le_right ..)
  | infinity neg => exact Format.read_word_notNaN f _ (Nat.le_refl _)
  | nan neg fr => cases h

theorem isNaN_iff {d : Datum} : d.isNaN = true ↔ ∃ s t, d = .nan s t := by
  cases d <;> simp [Datum.isNaN]

theorem sum_notNaN {x y d : Datum} (h : x.sum y = some d) : d.isNaN = false := by
  cases x <;> cases y <;> simp only [Datum.sum] at h <;> (try cases h) <;> (try rfl)
  · split at h
    · cases h; rfl
    · cases h
theorem product_notNaN {x y d : Datum} (h : x.product y = some d) : d.isNaN = false := by
  cases x <;> cases y <;> simp only [Datum.product] at h <;> (try cases h) <;> (try rfl)
  all_goals
    split at h
    · cases h
    · cases h; rfl
theorem quotient_notNaN {n : Nat} {x y d : Datum} (h : x.quotient n y = some d) : d.isNaN = false := by
  cases x <;> cases y <;> simp only [Datum.quotient] at h <;> (try cases h) <;> (try rfl)
  · split at h
    · split at h
      · cases h
      · cases h; rfl
    · cases h; rfl
theorem root_notNaN {n : Nat} {x d : Datum} (h : x.root n = some d) : d.isNaN = false := by
  cases x <;> simp only [Datum.root] at h
  · split at h
    · cases h; rfl
    · split at h
      · cases h
      · cases h; rfl
  · split at h
    · cases h
    · cases h; rfl
  · cases h

theorem isN_qn (k : FloatKind) : isN k (qn k) = true := by cases k <;> decide +kernel
theorem cn_of_N {k : FloatKind} {b : Nat} (h : isN k b = true) : cn k b = qn k := by simp [cn, h]
theorem cn_of_not {k : FloatKind} {b : Nat} (h : isN k b = false) : cn k b = b := by simp [cn, h]
theorem isN_cn (k : FloatKind) (b : Nat) : isN k (cn k b) = isN k b := by
  cases h : isN k b
  · rw [cn_of_not h, h]
  · rw [cn_of_N h, isN_qn]
theorem cn_cn (k : FloatKind) (b : Nat) : cn k (cn k b) = cn k b := by
  cases h : isN k b
  · rw [cn_of_not h, cn_of_not h]
  · rw [cn_of_N h, cn_of_N (isN_qn k)]
theorem cn_qn (k : FloatKind) : cn k (qn k) = qn k := cn_of_N (isN_qn k)

theorem read_N {k : FloatKind} {b : Nat} (h : isN k b = true) : ∃ s t, k.format.read b = .nan s t := isNaN_iff.1 h

theorem write_cn (k : FloatKind) {d : Datum} (h : d.isNaN = false) : isN k (k.format.write d) = false := Format.write_notNaN k.format h

section arith
variable {k : FloatKind} {x y : Nat}
theorem add_cn : k.format.add (cn k x) (cn k y) = k.format.add x y ∧ ∀ r, k.format.add x y = some r → isN k r = false := by
  constructor
  · unfold Format.add
    cases hx : isN k x
    · cases hy : isN k y
      · rw [cn_of_not hx, cn_of_not hy]
      · obtain ⟨s, t, e⟩ := read_N hy
        obtain ⟨s', t', e'⟩ := read_N (isN_qn k)
        rw [cn_of_N hy, e, e']
        cases k.format.read (cn k x) <;> cases k.format.read x <;> rfl
    · obtain ⟨s, t, e⟩ := read_N hx
      obtain ⟨s', t', e'⟩ := read_N (isN_qn k)
      rw [cn_of_N hx, e, e']; simp [Datum.sum]
  · intro r h
    unfold Format.add at h
    obtain ⟨d, hd, rfl⟩ := Option.map_eq_some_iff.1 h
    exact write_cn k (sum_notNaN hd)
theorem sub_cn : k.format.sub (cn k x) (cn k y) = k.format.sub x y ∧ ∀ r, k.format.sub x y = some r → isN k r = false := by
  constructor
  · unfold Format.sub
    cases hx : isN k x
    · cases hy : isN k y
      · rw [cn_of_not hx, cn_of_not hy]
      · obtain ⟨s, t, e⟩ := read_N hy
        obtain ⟨s', t', e'⟩ := read_N (isN_qn k)
        rw [cn_of_N hy, e, e']
        simp only [Datum.opposite]
        cases k.format.read (cn k x) <;> cases k.format.read x <;> rfl
    · obtain ⟨s, t, e⟩ := read_N hx
      obtain ⟨s', t', e'⟩ := read_N (isN_qn k)
      rw [cn_of_N hx, e, e']; simp [Datum.sum]
  · intro r h
    unfold Format.sub at h
    obtain ⟨d, hd, rfl⟩ := Option.map_eq_some_iff.1 h
    exact write_cn k (sum_notNaN hd)
theorem mul_cn : k.format.mul (cn k x) (cn k y) = k.format.mul x y ∧ ∀ r, k.format.mul x y = some r → isN k r = false := by
  constructor
  · unfold Format.mul
    cases hx : isN k x
    · cases hy : isN k y
      · rw [cn_of_not hx, cn_of_not hy]
      · obtain ⟨s, t, e⟩ := read_N hy
        obtain ⟨s', t', e'⟩ := read_N (isN_qn k)
        rw [cn_of_N hy, e, e']
        cases k.format.read (cn k x) <;> cases k.format.read x <;> rfl
    · obtain ⟨s, t, e⟩ := read_N hx
      obtain ⟨s', t', e'⟩ := read_N (isN_qn k)
      rw [cn_of_N hx, e, e']; simp [Datum.product]
  · intro r h
    unfold Format.mul at h
    obtain ⟨d, hd, rfl⟩ := Option.map_eq_some_iff.1 h
    exact write_cn k (product_notNaN hd)
theorem div_cn : k.format.div (cn k x) (cn k y) = k.format.div x y ∧ ∀ r, k.format.div x y = some r → isN k r = false := by
  constructor
  · unfold Format.div
    cases hx : isN k x
    · cases hy : isN k y
      · rw [cn_of_not hx, cn_of_not hy]
      · obtain ⟨s, t, e⟩ := read_N hy
        obtain ⟨s', t', e'⟩ := read_N (isN_qn k)
        rw [cn_of_N hy, e, e']
        cases k.format.read (cn k x) <;> cases k.format.read x <;> rfl
    · obtain ⟨s, t, e⟩ := read_N hx
      obtain ⟨s', t', e'⟩ := read_N (isN_qn k)
      rw [cn_of_N hx, e, e']; simp [Datum.quotient]
  · intro r h
    unfold Format.div at h
    obtain ⟨d, hd, rfl⟩ := Option.map_eq_some_iff.1 h
    exact write_cn k (quotient_notNaN hd)
theorem order_cn : k.format.order (cn k x) (cn k y) = k.format.order x y := by
  unfold Format.order
  cases hx : isN k x
  · cases hy : isN k y
    · rw [cn_of_not hx, cn_of_not hy]
    · obtain ⟨s, t, e⟩ := read_N hy
      obtain ⟨s', t', e'⟩ := read_N (isN_qn k)
      rw [cn_of_N hy, e, e']
      cases k.format.read (cn k x) <;> cases k.format.read x <;> rfl
  · obtain ⟨s, t, e⟩ := read_N hx
    obtain ⟨s', t', e'⟩ := read_N (isN_qn k)
    rw [cn_of_N hx, e, e']; simp [Datum.order]
theorem sqrt_cn : k.format.sqrt (cn k x) = k.format.sqrt x ∧ ∀ r, k.format.sqrt x = some r → isN k r = false := by
  constructor
  · unfold Format.sqrt
    cases hx : isN k x
    · rw [cn_of_not hx]
    · obtain ⟨s, t, e⟩ := read_N hx
      obtain ⟨s', t', e'⟩ := read_N (isN_qn k)
      rw [cn_of_N hx, e, e']; simp [Datum.root]
  · intro r h
    unfold Format.sqrt at h
    obtain ⟨d, hd, rfl⟩ := Option.map_eq_some_iff.1 h
    exact write_cn k (root_notNaN hd)
end arith

/-- the sign turned: a NaN stays one, and only a NaN becomes one -/
theorem negFloat_eq (k : FloatKind) (b : Nat) : isN k (Op.negFloat k b) = isN k b := by
  have key : ∀ (f : Format) (b : Nat), (b ^^^ f.signWeight) % f.signWeight = b % f.signWeight := by
    intro f b
    unfold Format.signWeight
    apply Nat.eq_of_testBit_eq
    intro i
    rw [Nat.testBit_mod_two_pow, Nat.testBit_mod_two_pow, Nat.testBit_xor, Nat.testBit_two_pow]
    by_cases h : i < f.exponentBits + f.fractionBits
    · have : ¬ f.exponentBits + f.fractionBits = i := by omega
      simp [h, this]
    · simp [h]
  have h2 : ∀ (f : Format) (a b : Nat), a % f.signWeight = b % f.signWeight → (f.read a).isNaN = (f.read b).isNaN := by
    intro f a b h
    unfold Format.read
    simp only [h]
    split
    · rfl
    · split
      · rfl
      · split <;> rfl
  exact h2 k.format _ _ (key k.format b)

theorem cn_neg (k : FloatKind) (x : Nat) : fneg k (cn k x) = cn k (Op.negFloat k x) := by
  unfold fneg
  cases hx : isN k x
  · rw [cn_of_not hx]
  · rw [cn_of_N hx, cn_of_N (by rw [negFloat_eq, isN_qn]), cn_of_N (by rw [negFloat_eq, hx])]

/-- what the tape hands out for a NaN is one -/
theorem nanCut32 (t : Nat) : isN .f32 ((t % 2) * 2 ^ 31 + 0x7f800000 + 1 + (t / 2) % (2 ^ 23 - 1)) = true := by
  have h1 : t / 2 % (2 ^ 23 - 1) < 2 ^ 23 - 1 := Nat.mod_lt _ (by decide)
  have h2 : t % 2 < 2 := Nat.mod_lt _ (by decide)
  generalize t / 2 % (2 ^ 23 - 1) = m at *
  generalize t % 2 = s at *
  have e : (s * 2 ^ 31 + 0x7f800000 + 1 + m) % 2147483648 = 0x7f800000 + 1 + m := by omega
  have ew : Ieee.single.signWeight = 2147483648 := by decide
  have eb : Ieee.single.binade = 8388608 := by decide
  have ei : Ieee.single.infRung = 2139095040 := by decide
  unfold isN FloatKind.format Format.read
  simp only [ew, eb, ei, e]
  rw [if_neg (by omega), if_neg (by omega), if_neg (by omega)]
  rfl
theorem nanCut64 (t : Nat) : isN .f64 ((t % 2) * 2 ^ 63 + 0x7ff0000000000000 + 1 + (t / 2) % (2 ^ 52 - 1)) = true := by
  have h1 : t / 2 % (2 ^ 52 - 1) < 2 ^ 52 - 1 := Nat.mod_lt _ (by decide)
  have h2 : t % 2 < 2 := Nat.mod_lt _ (by decide)
  generalize t / 2 % (2 ^ 52 - 1) = m at *
  generalize t % 2 = s at *
  have e : (s * 2 ^ 63 + 0x7ff0000000000000 + 1 + m) % 9223372036854775808 = 0x7ff0000000000000 + 1 + m := by omega
  have ew : Ieee.double.signWeight = 9223372036854775808 := by decide
  have eb : Ieee.double.binade = 4503599627370496 := by decide
  have ei : Ieee.double.infRung = 9218868437227405312 := by decide
  unfold isN FloatKind.format Format.read
  simp only [ew, eb, ei, e]
  rw [if_neg (by omega), if_neg (by omega), if_neg (by omega)]
  rfl
theorem nanBits_cut (k : FloatKind) (x y t : Nat) : isN k ((Question.nanBits k x y).cut t) = true := by
  cases k
  · exact nanCut32 t
  · exact nanCut64 t
theorem nanConv_cut (k : FloatKind) (x t : Nat) : isN k ((Question.nanConv k x).cut t) = true := by
  cases k
  · exact nanCut32 t
  · exact nanCut64 t

/-! ### Widening never overflows; order with oneself -/
theorem cut_zero (neg : Bool) (n : Nat) : Toward.even.cut neg n 0 = n := by
  unfold Toward.cut
  simp [Nat.mod_one]
theorem double_facts : Ieee.double.infRung = 9218868437227405312 ∧ Ieee.double.binade = 4503599627370496 ∧ Ieee.double.leastPlace = -1074 ∧ Ieee.double.signWeight = 9223372036854775808 ∧ Ieee.double.fractionBits = 52 := by decide
theorem single_facts : Ieee.single.infRung = 2139095040 ∧ Ieee.single.binade = 8388608 ∧ Ieee.single.leastPlace = -149 ∧ Ieee.single.signWeight = 2147483648 ∧ Ieee.single.fractionBits = 23 := by decide

/-- a small number is met exactly by the wide format -/
theorem widen_nearest (neg : Bool) (m : Nat) (e : Int) (h0 : m ≠ 0) (hm : m < 2 ^ 24) (he : -149 ≤ e) :
    Ieee.double.nearest neg m e = Ieee.double.word neg (min ((e + m.log2 - 52 + 1074).toNat * 4503599627370496 + m * 2 ^ (52 - m.log2)) 9218868437227405312) := by
  have hl : m.log2 < 24 := (Nat.log2_lt h0).2 hm
  obtain ⟨f1, f2, f3, f4, f5⟩ := double_facts
  unfold Format.nearest
  rw [if_neg h0]
  simp only [f1, f2, f3, f5]
  have e1 : max (e + (m.log2 : Int) - ((52 : Nat) : Int)) (-1074) = e + m.log2 - 52 := by omega
  rw [e1]
  have e2 : (e + (m.log2 : Int) - 52 - e).toNat = 0 := by omega
  have e3 : (e - (e + (m.log2 : Int) - 52)).toNat = 52 - m.log2 := by omega
  rw [e2, e3, cut_zero, Nat.shiftLeft_eq, show e + (m.log2 : Int) - 52 - -1074 = e + m.log2 - 52 + 1074 by omega]

theorem word_read (f : Format) (neg : Bool) {rung : Nat} (h : rung < f.infRung) : (f.read (f.word neg rung)).isInfinity = false := by
  have hlt : rung < f.signWeight := Nat.lt_trans h f.infRung_lt
  unfold Format.read
  simp only [Format.word_mod f neg hlt]
  split
  · rfl
  · first | rfl | (rw [if_pos h]; rfl)

theorem read_single (x : Nat) : (∃ g m e, Ieee.single.read x = .number g m e ∧ m < 2 ^ 24 ∧ -149 ≤ e ∧ e ≤ 104) ∨ (∃ g, Ieee.single.read x = .infinity g) ∨ ∃ g t, Ieee.single.read x = .nan g t := by
  obtain ⟨f1, f2, f3, f4, f5⟩ := single_facts
  unfold Format.read
  simp only [f1, f2, f3, f4]
  split
  · exact .inl ⟨_, _, _, rfl, by omega, by omega, by omega⟩
  · split
    · refine .inl ⟨_, _, _, rfl, by omega, by omega, ?_⟩
      have : x % 2147483648 / 8388608 ≤ 254 := by omega
      omega
    · split
      · exact .inr (.inl ⟨_, rfl⟩)
      · exact .inr (.inr ⟨_, _, rfl⟩)

theorem fcvOk_widen (a : Nat) : fcvOk .f32 .f64 a = true := by
  unfold fcvOk FloatKind.format
  rcases read_single a with ⟨g, m, e, h, hm, he, he'⟩ | ⟨g, h⟩ | ⟨g, t, h⟩
  · rw [h]
    simp only [Bool.not_eq_true']
    by_cases h0 : m = 0
    · subst h0
      show (Ieee.double.read (Ieee.double.nearest g 0 e)).isInfinity = false
      unfold Format.nearest
      rw [if_pos rfl]
      exact word_read _ _ (by decide)
    · show (Ieee.double.read (Ieee.double.nearest g m e)).isInfinity = false
      rw [widen_nearest g m e h0 hm he]
      have hl : m.log2 < 24 := (Nat.log2_lt h0).2 hm
      have hk : m * 2 ^ (52 - m.log2) < 2 ^ 53 := by
        have h1 : m < 2 ^ (m.log2 + 1) := Nat.lt_log2_self
        calc m * 2 ^ (52 - m.log2) < 2 ^ (m.log2 + 1) * 2 ^ (52 - m.log2) := Nat.mul_lt_mul_of_pos_right h1 (Nat.two_pow_pos _)
          _ = 2 ^ 53 := by rw [← Nat.pow_add]; congr 1; omega
      have hb : (e + (m.log2 : Int) - 52 + 1074).toNat ≤ 1149 := by omega
      have hlt : (e + (m.log2 : Int) - 52 + 1074).toNat * 4503599627370496 + m * 2 ^ (52 - m.log2) < 9218868437227405312 := by omega
      rw [Nat.min_eq_left (Nat.le_of_lt hlt)]
      exact word_read _ _ (by rw [double_facts.1]; exact hlt)
  · rw [h]
  · rw [h]

theorem order_self {d : Datum} (h : d.isNaN = false) : d.order d = some .eq := by
  cases d with
  | number s m i => simp only [Datum.order]; rw [Int.compare_eq_eq.2 rfl]
  | infinity s => simp only [Datum.order]; cases s <;> rfl
  | nan s t => cases h
theorem feq_self {k : FloatKind} {x : Nat} (h : isN k x = false) : feq k x x = true := by
  unfold feq Format.order
  rw [order_self h]; rfl
theorem fne_self {k : FloatKind} {x : Nat} (h : isN k x = false) : fne k x x = false := by
  unfold fne Format.order
  rw [order_self h]; rfl
theorem fne_N {k : FloatKind} {x : Nat} (h : isN k x = true) : fne k x x = true := by
  obtain ⟨s, t, e⟩ := read_N h
  unfold fne Format.order
  rw [e]; rfl
end Ev
namespace Ev
open Go Go.RowKit

/-- a pointer, a slice or a function -/
def ptrLike : Value → Prop
  | .pointer _ | .slice _ _ _ | .func _ _ _ => True
  | _ => False
/-- where the blocks lie; how many cells a real block has, and the row that stands for a block -/
structure Mu where
  f : Nat → Option Nat
  sz : Nat → Nat
  rl : Nat → Nat
instance : CoeFun Mu (fun _ => Nat → Option Nat) := ⟨Mu.f⟩
def Mu.nil : Mu := ⟨fun _ => none, fun _ => 0, fun _ => 0⟩
/-- a slice's room: as much as is told, or more, where a slice has grown -/
def CapR (μ : Mu) (b b' o c c' : Nat) : Prop := c = c' ∨ (0 < c ∧ c ≤ c' ∧ ∃ k s, μ.sz b' = (c' + k) * s ∧ c' + k ≤ maxLen ∧ μ.rl b = (c + k) * s ∧ (0 < o ∨ k = 0))
variable [Frn]
/-! ### Values, related: the abstract one, the real one -/
inductive VR (μ : Mu) : Value → Value → Prop where
  | bool (b : Bool) : VR μ (.bool b) (.bool b)
  | int (k : IntKind) (n : Int) : VR μ (.int k n) (.int k n)
  | string (s : ByteArray) : VR μ (.string s) (.string s)
  | float (k : FloatKind) (a x : Nat) (h : a = cn k x) : VR μ (.float k a) (.float k x)
  | ptrNil : VR μ (.pointer none) (.pointer none)
  | ptr (b o b' : Nat) (h : μ b = some b') : VR μ (.pointer (some ⟨b, o, none⟩)) (.pointer (some ⟨b', o, none⟩))
  | sliceNil (l c : Nat) : VR μ (.slice none l c) (.slice none l c)
  | slice (b o b' l c c' : Nat) (h : μ b = some b') (hc : CapR μ b b' o c c') : VR μ (.slice (some ⟨b, o, none⟩) l c) (.slice (some ⟨b', o, none⟩) l c')
  | sliceF (k l c : Nat) (a : Option Addr) (c' : Nat) (h : Frn.rel k (.slice a l c')) : VR μ (.slice (some ⟨k, 0, some 0⟩) l c) (.slice a l c')
  | sliceP (k o l c : Nat) (a : Option Addr) (c' : Nat) (hc : l ≤ c') (h : 0 < l → ∃ b o' L C, Frn.rel k (.slice (some ⟨b, o', none⟩) L C) ∧ a = some ⟨b, o' + o, none⟩) : VR μ (.slice (some ⟨k, o, some 1⟩) l c) (.slice a l c')
  | ptrF (k o l c b o' : Nat) (h : Frn.rel k (.slice (some ⟨b, o', none⟩) l c)) : VR μ (.pointer (some ⟨k, o, some 0⟩)) (.pointer (some ⟨b, o' + o, none⟩))
  | func (fn : Fn) (f f' c c' : Array Value) (h1 : f.toList.length = f'.toList.length) (h2 : ∀ (i : Nat) x y, f.toList[i]? = some x → f'.toList[i]? = some y → VR μ x y)
      (h3 : c.toList.length = c'.toList.length) (h4 : ∀ (i : Nat) x y, c.toList[i]? = some x → c'.toList[i]? = some y → VR μ x y) : VR μ (.func fn f c) (.func fn f' c')
  | nilFunc : VR μ .nilFunc .nilFunc
  | nilIface : VR μ .nilIface .nilIface
  | mapNil : VR μ (.map none) (.map none)
  | junk (v : Value) (h : ptrLike v) : VR μ (.complex .f64 0 0) v
  | iface (t : TypeId) : VR μ (.iface t (.agg #[])) (.iface t (.agg #[]))
  | agg (xs ys : Array Value) (h1 : xs.toList.length = ys.toList.length) (h2 : ∀ (i : Nat) x y, xs.toList[i]? = some x → ys.toList[i]? = some y → VR μ x y) : VR μ (.agg xs) (.agg ys)
  | tuple (xs ys : Array Value) (h1 : xs.toList.length = ys.toList.length) (h2 : ∀ (i : Nat) x y, xs.toList[i]? = some x → ys.toList[i]? = some y → VR μ x y) : VR μ (.tuple xs) (.tuple ys)

def VRL (μ : Mu) (xs ys : List Value) : Prop := xs.length = ys.length ∧ ∀ (i : Nat) x y, xs[i]? = some x → ys[i]? = some y → VR μ x y

/-- more blocks are known -/
def Sub (μ μ' : Mu) : Prop := ∀ b b', μ b = some b' → μ' b = some b' ∧ μ'.sz b' = μ.sz b' ∧ μ'.rl b = μ.rl b
theorem Sub.refl (μ : Mu) : Sub μ μ := fun _ _ h => ⟨h, rfl, rfl⟩
theorem Sub.trans {a b c : Mu} (h : Sub a b) (k : Sub b c) : Sub a c := fun x y e => by
  obtain ⟨h1, h2, h3⟩ := h x y e
  obtain ⟨k1, k2, k3⟩ := k x y h1
  exact ⟨k1, k2.trans h2, k3.trans h3⟩
theorem CapR.mono {μ μ' : Mu} (hs : Sub μ μ') {b b' o c c' : Nat} (hb : μ b = some b') (h : CapR μ b b' o c c') : CapR μ' b b' o c c' := by
  obtain ⟨_, h2, h3⟩ := hs _ _ hb
  unfold CapR at h ⊢
  rw [h2, h3]
  exact h
theorem CapR.self (μ : Mu) (b b' o c : Nat) : CapR μ b b' o c c := .inl rfl
theorem CapR.le {μ : Mu} {b b' o c c' : Nat} (h : CapR μ b b' o c c') : c ≤ c' := by
  rcases h with h | h
  · exact Nat.le_of_eq h
  · exact h.2.1

theorem VR.mono {μ μ' : Mu} (hs : Sub μ μ') {x y : Value} (h : VR μ x y) : VR μ' x y := by
  induction h with
  | bool b => exact .bool b
  | int k n => exact .int k n
  | string s => exact .string s
  | float k a x h => exact .float k a x h
  | ptrNil => exact .ptrNil
  | ptr b o b' h => exact .ptr b o b' (hs _ _ h).1
  | sliceNil l c => exact .sliceNil l c
  | slice b o b' l c c' h hc => exact .slice b o b' l c c' (hs _ _ h).1 (hc.mono hs h)
  | sliceF k l c a c' h => exact .sliceF k l c a c' h
  | sliceP k o l c a c' hc h => exact .sliceP k o l c a c' hc h
  | ptrF k o l c b o' h => exact .ptrF k o l c b o' h
  | func fn f f' c c' h1 _ h3 _ i2 i4 => exact .func fn f f' c c' h1 i2 h3 i4
  | nilFunc => exact .nilFunc
  | nilIface => exact .nilIface
  | mapNil => exact .mapNil
  | junk v h => exact .junk v h
  | iface t => exact .iface t
  | agg xs ys h1 _ i2 => exact .agg xs ys h1 i2
  | tuple xs ys h1 _ i2 => exact .tuple xs ys h1 i2
theorem VRL.mono {μ μ' : Mu} (hs : Sub μ μ') {x y : List Value} (h : VRL μ x y) : VRL μ' x y := ⟨h.1, fun i a b ha hb => (h.2 i a b ha hb).mono hs⟩

section inv
variable {μ : Mu} {v : Value}
theorem VR.bool_inv {b : Bool} (h : VR μ (.bool b) v) : v = .bool b := by cases h; rfl
theorem VR.int_inv {k : IntKind} {n : Int} (h : VR μ (.int k n) v) : v = .int k n := by cases h; rfl
theorem VR.string_inv {s : ByteArray} (h : VR μ (.string s) v) : v = .string s := by cases h; rfl
theorem VR.float_inv {k : FloatKind} {a : Nat} (h : VR μ (.float k a) v) : ∃ x, v = .float k x ∧ a = cn k x := by cases h; exact ⟨_, rfl, by assumption⟩
theorem VR.ptr_inv {b o : Nat} (h : VR μ (.pointer (some ⟨b, o, none⟩)) v) : ∃ b', v = .pointer (some ⟨b', o, none⟩) ∧ μ b = some b' := by cases h; exact ⟨_, rfl, by assumption⟩
theorem VR.slice_inv {b o l c : Nat} (h : VR μ (.slice (some ⟨b, o, none⟩) l c) v) : ∃ b' c', v = .slice (some ⟨b', o, none⟩) l c' ∧ μ b = some b' ∧ CapR μ b b' o c c' := by cases h; exact ⟨_, _, rfl, by assumption, by assumption⟩
theorem VR.nilIface_inv (h : VR μ .nilIface v) : v = .nilIface := by cases h; rfl
theorem VR.iface_inv {t : TypeId} {x : Value} (h : VR μ (.iface t x) v) : x = .agg #[] ∧ v = .iface t (.agg #[]) := by cases h; exact ⟨rfl, rfl⟩
theorem VR.agg_inv {xs : Array Value} (h : VR μ (.agg xs) v) : ∃ ys, v = .agg ys ∧ VRL μ xs.toList ys.toList := by cases h with | agg _ ys h1 h2 => exact ⟨ys, rfl, h1, h2⟩
theorem VR.tuple_inv {xs : Array Value} (h : VR μ (.tuple xs) v) : ∃ ys, v = .tuple ys ∧ VRL μ xs.toList ys.toList := by cases h with | tuple _ ys h1 h2 => exact ⟨ys, rfl, h1, h2⟩
theorem VR.func_inv {fn : Fn} {f c : Array Value} (h : VR μ (.func fn f c) v) : ∃ f' c', v = .func fn f' c' ∧ VRL μ f.toList f'.toList ∧ VRL μ c.toList c'.toList := by
  cases h with | func _ _ f' _ c' h1 h2 h3 h4 => exact ⟨f', c', rfl, ⟨h1, h2⟩, h3, h4⟩
end inv

section lists
variable {μ : Mu}
theorem VR.of_agg {xs ys : List Value} (h : VRL μ xs ys) : VR μ (.agg xs.toArray) (.agg ys.toArray) := .agg _ _ (by simpa using h.1) (by simpa using h.2)
theorem VR.of_tuple {xs ys : List Value} (h : VRL μ xs ys) : VR μ (.tuple xs.toArray) (.tuple ys.toArray) := .tuple _ _ (by simpa using h.1) (by simpa using h.2)
theorem VRL.nil : VRL μ [] [] := ⟨rfl, by simp⟩
theorem VRL.cons {x y : Value} {xs ys : List Value} (h : VR μ x y) (hs : VRL μ xs ys) : VRL μ (x :: xs) (y :: ys) :=
  ⟨by simp [hs.1], fun i a b ha hb => by
    cases i with
    | zero => simp at ha hb; subst ha hb; exact h
    | succ i => simp at ha hb; exact hs.2 i a b ha hb⟩
theorem VRL.head {x y : Value} {xs ys : List Value} (h : VRL μ (x :: xs) (y :: ys)) : VR μ x y := h.2 0 x y (by simp) (by simp)
theorem VRL.tail {x y : Value} {xs ys : List Value} (h : VRL μ (x :: xs) (y :: ys)) : VRL μ xs ys := ⟨by simpa using h.1, fun i a b ha hb => h.2 (i + 1) a b (by simpa using ha) (by simpa using hb)⟩
theorem VRL.append {a b c d : List Value} (h : VRL μ a b) (k : VRL μ c d) : VRL μ (a ++ c) (b ++ d) :=
  ⟨by simp [h.1, k.1], fun i x y hx hy => by
    by_cases hi : i < a.length
    · rw [List.getElem?_append_left hi] at hx
      rw [List.getElem?_append_left (by rw [← h.1]; exact hi)] at hy
      exact h.2 i x y hx hy
    · rw [List.getElem?_append_right (by omega)] at hx
      rw [List.getElem?_append_right (by rw [← h.1]; omega), ← h.1] at hy
      exact k.2 _ x y hx hy⟩
theorem VRL.take {a b : List Value} (h : VRL μ a b) (n : Nat) : VRL μ (a.take n) (b.take n) :=
  ⟨by simp [h.1], fun i x y hx hy => by
    rw [List.getElem?_take] at hx hy
    split at hx
    · rename_i hi
      rw [if_pos hi] at hy
      exact h.2 i x y hx hy
    · cases hx⟩
theorem VRL.drop {a b : List Value} (h : VRL μ a b) (n : Nat) : VRL μ (a.drop n) (b.drop n) :=
  ⟨by simp [h.1], fun i x y hx hy => by
    rw [List.getElem?_drop] at hx hy
    exact h.2 _ x y hx hy⟩
theorem VRL.get {a b : List Value} (h : VRL μ a b) {i : Nat} {x : Value} (hx : a[i]? = some x) : ∃ y, b[i]? = some y ∧ VR μ x y := by
  have hi : i < b.length := by
    rw [← h.1]
    exact (List.getElem?_eq_some_iff.1 hx).1
  exact ⟨b[i], List.getElem?_eq_getElem hi, h.2 i x _ hx (List.getElem?_eq_getElem hi)⟩
theorem VR.cells {x y : Value} (h : VR μ x y) : VRL μ x.cells.toList y.cells.toList := by
  cases h with
  | agg xs ys h1 h2 => exact ⟨h1, h2⟩
  | junk _ h =>
    cases y with
    | pointer a => exact VRL.cons (.junk _ h) VRL.nil
    | slice a l c => exact VRL.cons (.junk _ h) VRL.nil
    | func f a b => exact VRL.cons (.junk _ h) VRL.nil
    | _ => exact h.elim
  | _ => exact VRL.cons (by constructor <;> assumption) VRL.nil

theorem canonB_VR {v : Value} (h : canonB v = true) : VR μ v v := by
  cases v with
  | bool b => exact .bool b
  | int k n => exact .int k n
  | string s => exact .string s
  | nilFunc => exact .nilFunc
  | nilIface => exact .nilIface
  | pointer a => cases a with
    | none => exact .ptrNil
    | some a => simp [canonB] at h
  | slice a l c => cases a with
    | none => exact .sliceNil l c
    | some a => simp [canonB] at h
  | map r => cases r with
    | none => exact .mapNil
    | some r => simp [canonB] at h
  | iface t v =>
    cases v with
    | agg cs =>
      have : cs = #[] := Array.ext' (by simpa [canonB] using h)
      subst this
      exact .iface t
    | _ => simp [canonB] at h
  | float k b =>
    refine .float k b b ?_
    simp only [canonB, Bool.or_eq_true, Bool.not_eq_true'] at h
    rcases h with h | h
    · exact (cn_of_not h).symm
    · rw [Nat.eq_of_beq_eq_true h, cn_qn]
  | _ => simp [canonB] at h
theorem canonL_VRL {l : List Value} (h : l.all canonB = true) : VRL μ l l :=
  ⟨rfl, fun i x y hx hy => by
    rw [hx] at hy; cases hy
    exact canonB_VR (List.all_eq_true.1 h x (List.mem_of_getElem? hx))⟩
theorem scalarB_one {x y : Value} (h : VR μ x y) (hs : scalarB x = true) : y.oneCell' = true := by
  cases h with
  | junk _ h => cases y <;> first | rfl | exact h.elim
  | _ => first | rfl | cases hs
end lists

/-! ### States, related -/
structure HeapR (μ : Mu) (h : Heap) (w : World) (B : Nat) : Prop where
  dom : ∀ b cs, h.getD b none = some cs → ∃ b' cs' T, μ b = some b' ∧ B ≤ b' ∧ w.heap[b']? = some (.cells cs' T (0, 0)) ∧ VRL μ cs (cs'.toList.take cs.length)
  size : ∀ b cs b' cs' T, h.getD b none = some cs → μ b = some b' → w.heap[b']? = some (.cells cs' T (0, 0)) → cs'.size = μ.sz b' ∧ (cs = [] ∨ cs.length = μ.rl b)
  base : Frn.base ≤ B
  inv : Frn.inv w
  non : ∀ b, h.getD b none = none → μ b = none
  inj : ∀ b1 b2 x, h.getD b1 none ≠ some [] → h.getD b2 none ≠ some [] → μ b1 = some x → μ b2 = some x → b1 = b2

def SlotR (μ : Mu) (p : Value × Bool) (v : Value) : Prop := (p.2 = true → VR μ p.1 v) ∧ (p.2 = false → v = undef)
def TmpsR (μ : Mu) (t : List (Value × Bool)) (c : Array Value) : Prop := t.length = c.size ∧ ∀ (i : Nat) p v, t[i]? = some p → c[i]? = some v → SlotR μ p v

theorem SlotR.undef (μ : Mu) : SlotR μ (undef, false) undef := ⟨fun h => (by cases h), fun _ => rfl⟩
theorem SlotR.mono {μ μ' : Mu} (hs : Sub μ μ') {p : Value × Bool} {v : Value} (h : SlotR μ p v) : SlotR μ' p v := ⟨fun e => (h.1 e).mono hs, h.2⟩
theorem TmpsR.mono {μ μ' : Mu} (hs : Sub μ μ') {t : List (Value × Bool)} {c : Array Value} (h : TmpsR μ t c) : TmpsR μ' t c := ⟨h.1, fun i p v hp hv => (h.2 i p v hp hv).mono hs⟩
theorem TmpsR.getD {μ : Mu} {t : List (Value × Bool)} {c : Array Value} (h : TmpsR μ t c) (i : Nat) : SlotR μ (t.getD i (Go.undef, false)) (c.getD i Go.undef) := by
  by_cases hi : i < c.size
  · have hi' : i < t.length := by rw [h.1]; exact hi
    have h1 : t[i]? = some t[i] := List.getElem?_eq_getElem hi'
    have h2 : c[i]? = some c[i] := Array.getElem?_eq_getElem hi
    have := h.2 i _ _ h1 h2
    simpa [h1, h2] using this
  · have h1 : t[i]? = none := List.getElem?_eq_none (by rw [h.1]; omega)
    have h2 : c[i]? = none := by simp; omega
    simpa [h1, h2] using SlotR.undef μ
theorem TmpsR.put {μ : Mu} {t : List (Value × Bool)} {a : Act} (h : TmpsR μ t a.tmps) (d : Option Tmp) {p : Value × Bool} {v : Value} (hp : SlotR μ p v) : TmpsR μ (putT t d p) (a.put d v).tmps := by
  cases d with
  | none => exact h
  | some d =>
    refine ⟨by simp [putT, Act.put, h.1], fun i q u hq hu => ?_⟩
    simp only [putT, Act.put] at hq hu
    rw [List.getElem?_set] at hq
    rw [Array.getElem?_setIfInBounds] at hu
    by_cases hdi : d = i
    · subst hdi
      rw [if_pos rfl] at hq hu
      split at hq
      · cases hq
        split at hu
        · cases hu; exact hp
        · cases hu
      · cases hq
    · rw [if_neg hdi] at hq hu
      exact h.2 i q u hq hu

theorem evl_sound {μ : Mu} {t : List (Value × Bool)} {a : Act} (h : TmpsR μ t a.tmps) (x : Operand) (hg : (evl t x).2 = true) : VR μ (evl t x).1 (a.eval x) := by
  cases x with
  | tmp i => exact (h.getD i).1 hg
  | const v => exact canonB_VR hg
  | global g => simp [evl] at hg
  | func f => exact .func _ _ _ _ _ rfl (by simp) rfl (by simp)

/-- what a real operation may leave -/
structure OpPost (μ : Mu) (B : Nat) (w : World) (h : Heap) (r : OpRes) (v : Value) (w' : World) (μ' : Mu) : Prop where
  sub : Sub μ μ'
  val : SlotR μ' (r.val, r.g) v
  heap : HeapR μ' (putW h r.w) w' B
  below : Below B w w'

/-- the operation's 'wp', whatever it leaves -/
def OpGoes (P : Program) (o : Oper) (a : Act) (w : World) (μ : Mu) (B : Nat) (h : Heap) (r : OpRes) : Prop :=
  ∀ (K : Act → World → Prop) (Q : Exit → Act → World → Prop), (∀ v w' μ', OpPost μ B w h r v w' μ' → K (a.put o.dst v) w') → o.wp P a w K Q

theorem pureS_run {α : Type} {P : Program} {s : Sem α} {a : α} (h : pureS P s = some a) (w : World) : s.run P w = .ok a w := by
  induction s with
  | pure x => cases h; rfl
  | program k ih => exact ih P h
  | _ => cases h

/-- a pure value -/
theorem goes_value {P : Program} {o : Oper} {a : Act} {w : World} {μ : Mu} {B : Nat} {h : Heap} {x : Value} {v : Value} {ok : Bool} (hh : HeapR μ h w B)
    (hr : (execOp a.eval o).run P w = .ok (.value v) w) (hv : VR μ x v) : OpGoes P o a w μ B h ⟨x, true, .no, ok⟩ := by
  intro K Q hK
  unfold Oper.wp
  rw [hr]
  exact hK v w μ ⟨Sub.refl μ, ⟨fun _ => hv, fun e => (by cases e)⟩, hh, Below.refl B w⟩

theorem Below.drawn0 (B : Nat) (w : World) : Below B w { w with drawn := w.drawn + 1 } := ⟨rfl, rfl, rfl, Nat.le_refl _, fun _ _ => rfl⟩
theorem HeapR.drew {μ : Mu} {h : Heap} {w : World} {B : Nat} (hh : HeapR μ h w B) : HeapR μ h { w with drawn := w.drawn + 1 } B := ⟨hh.dom, hh.size, hh.base, Frn.keep hh.base (Below.drawn0 B w) hh.inv, hh.non, hh.inj⟩
theorem Below.drawn (B : Nat) (w : World) : Below B w { w with drawn := w.drawn + 1 } := ⟨rfl, rfl, rfl, Nat.le_refl _, fun _ _ => rfl⟩

/-- a pure value behind a draw -/
theorem goes_draw {P : Program} {o : Oper} {a : Act} {w : World} {μ : Mu} {B : Nat} {h : Heap} {x : Value} {v : Value} {ok : Bool} (hh : HeapR μ h w B)
    (hr : (execOp a.eval o).run P w = .ok (.value v) { w with drawn := w.drawn + 1 }) (hv : VR μ x v) : OpGoes P o a w μ B h ⟨x, true, .no, ok⟩ := by
  intro K Q hK
  unfold Oper.wp
  rw [hr]
  exact hK v _ μ ⟨Sub.refl μ, ⟨fun _ => hv, fun e => (by cases e)⟩, hh.drew, Below.drawn B w⟩
end Ev
namespace Ev
open Go Go.RowKit
variable [Frn]

/-! ### what holds beside the answer -/
theorem mk2_some {v : Option (Value × Bool)} {g : Bool} {r : OpRes} (h : mk2 v g = some r) : ∃ x k, v = some (x, k) ∧ r = ⟨x, true, .no, g && k⟩ := by
  unfold mk2 at h
  split at h
  · cases h; exact ⟨_, _, rfl, rfl⟩
  · cases h
theorem kiB_eq {k k' : IntKind} (h : kiB k k' = true) : k = k' := by cases k <;> cases k' <;> first | rfl | cases h
theorem kiB_self (k : IntKind) : kiB k k = true := by cases k <;> rfl
theorem tyV_of {d : TypeDesc} {v : Value} (h : tyB d v = true) : tyV d v = v := by
  cases d with
  | int k => cases v with
    | int k' z => rw [show tyV (.int k) (.int k' z) = .int k z from rfl, kiB_eq h]
    | _ => cases h
  | float k => cases v with
    | float k' b => cases k <;> cases k' <;> first | rfl | cases h
    | _ => cases h
  | bool => cases v <;> first | rfl | cases h
  | string => cases v <;> first | rfl | cases h
  | _ => rfl
theorem cellF_D {d : TypeDesc} {cs : List Value} {o : Nat} {v : Value} (h : cellF d cs o = (v, true)) : cs[o]? = some v := by
  unfold cellF at h
  rw [List.getD_eq_getElem?_getD] at h
  simp only [Prod.mk.injEq, Bool.and_eq_true] at h
  obtain ⟨h1, h2, h3⟩ := h
  cases hc : cs[o]? with
  | none => rw [hc] at h2; cases h2
  | some x =>
    rw [hc] at h1 h3
    rw [← h1]
    exact congrArg some (tyV_of h3).symm
theorem cellF_of {d : TypeDesc} {cs : List Value} {o : Nat} {v : Value} (h : cs[o]? = some v) (hk : tyB d v = true) : cellF d cs o = (v, true) := by
  unfold cellF
  rw [List.getD_eq_getElem?_getD, h]
  simp only [Option.getD_some, Option.isSome_some, Bool.true_and]
  rw [hk, tyV_of hk]
theorem lookF_D {P : Program} {t : TypeId} {cs : List Value} {o : Nat} {v : Value} (h : lookF P t cs o = some (v, true)) : (match P.underlying t with
      | some d =>
        bif isAggD d then
          match P.info? t with
          | some i => bif Nat.ble (o + i.size) cs.length then some (.agg ((cs.drop o).take i.size).toArray) else none
          | none => none
        else cs[o]?
      | none => none) = some v := by
  unfold lookF partF at h
  cases hu : P.underlying t with
  | none => rw [hu] at h; cases h
  | some d =>
    rw [hu] at h
    dsimp only at h ⊢
    cases hd : isAggD d with
    | false =>
      rw [hd] at h
      simp only [cond_false, Option.some.injEq] at h ⊢
      exact cellF_D h
    | true =>
      rw [hd] at h
      simp only [cond_true] at h ⊢
      cases hi : P.info? t with
      | none => rw [hi] at h; cases h
      | some i =>
        rw [hi] at h
        simp only [Option.some.injEq, Prod.mk.injEq] at h ⊢
        rw [h.2, cond_true, h.1]
theorem lookF_of {P : Program} {t : TypeId} {cs : List Value} {o : Nat} {v : Value} (h : (match P.underlying t with
      | some d =>
        bif isAggD d then
          match P.info? t with
          | some i => bif Nat.ble (o + i.size) cs.length then some (.agg ((cs.drop o).take i.size).toArray) else none
          | none => none
        else cs[o]?
      | none => none) = some v) (hk : ∀ d, P.underlying t = some d → tyB d v = true) : lookF P t cs o = some (v, true) := by
  unfold lookF partF
  cases hu : P.underlying t with
  | none => rw [hu] at h; cases h
  | some d =>
    have hk := hk d hu
    rw [hu] at h
    dsimp only at h ⊢
    cases hd : isAggD d with
    | false =>
      rw [hd] at h
      simp only [cond_false, Option.some.injEq] at h ⊢
      exact cellF_of h hk
    | true =>
      rw [hd] at h
      simp only [cond_true] at h ⊢
      cases hi : P.info? t with
      | none => rw [hi] at h; cases h
      | some i =>
        rw [hi] at h
        simp only at h ⊢
        cases hb : Nat.ble (o + i.size) cs.length with
        | false => rw [hb] at h; cases h
        | true => rw [hb] at h; rw [cond_true] at h; cases h; rfl
theorem loadF_D {P : Program} {chk : Nat → Bool} {h : Heap} {t : TypeId} {x v : Value} (e : loadF P chk h t x = some (v, true)) : loadD P chk h t x = some v := by
  unfold loadF at e
  unfold loadD
  split at e
  · rename_i b o
    cases hc : chk b with
    | false => rw [hc] at e; cases e
    | true =>
      rw [hc] at e
      simp only [cond_true] at e ⊢
      cases hg : h.getD b none with
      | none => rw [hg] at e; cases e
      | some cs => rw [hg] at e; exact lookF_D e
  · exact lookF_D e
  · cases e
theorem loadF_of {P : Program} {chk : Nat → Bool} {h : Heap} {t : TypeId} {x v : Value} (e : loadD P chk h t x = some v) (hk : ∀ d, P.underlying t = some d → tyB d v = true) : loadF P chk h t x = some (v, true) := by
  unfold loadD at e
  unfold loadF
  split at e
  · rename_i b o
    cases hc : chk b with
    | false => rw [hc] at e; cases e
    | true =>
      rw [hc] at e
      simp only [cond_true] at e ⊢
      cases hg : h.getD b none with
      | none => rw [hg] at e; cases e
      | some cs => rw [hg] at e; exact lookF_of e hk
  · exact lookF_of e hk
  · cases e
theorem storeF_iff {P : Program} {chk : Nat → Bool} {h : Heap} {t : TypeId} {a x : Value} {b : Nat} {cs : List Value} : storeF P chk h t a x = some (b, cs, true) ↔ storeD P chk h t a x = some (b, cs) := by
  unfold storeF storeD
  split
  · rename_i b' o
    cases chk b' with
    | false => simp
    | true =>
      simp only [cond_true]
      cases h.getD b' none with
      | none => simp
      | some cs' =>
        simp only
        cases P.info? t with
        | none => simp
        | some i =>
          simp only [Option.some.injEq, Prod.mk.injEq]
          cases hb : (Nat.beq x.cells.toList.length i.size && x.cells.toList.all scalarB && Nat.ble (o + x.cells.toList.length) cs'.length) <;> simp
  · simp
theorem idxF_D {P : Program} {t : TypeId} {x ix v : Value} (h : idxF P t x ix = some (v, true)) : idxD P t x ix = some v := by
  unfold idxF at h
  unfold idxD partD
  split at h
  · rename_i k i
    split at h
    · rename_i len elem cs hu
      try rw [hu]
      try dsimp only
      cases hi : P.info? elem with
      | none => rw [hi] at h; cases h
      | some inf =>
        rw [hi] at h
        dsimp only at h ⊢
        cases he : P.underlying elem with
        | none => rw [he] at h; cases h
        | some d =>
          rw [he] at h
          dsimp only at h ⊢
          cases hd : isAggD d with
          | true =>
            rw [hd] at h
            simp only [cond_true, Option.some.injEq, Prod.mk.injEq] at h ⊢
            unfold inB at h
            rw [h.2, cond_true, h.1]
          | false =>
            rw [hd] at h
            simp only [cond_false, Option.some.injEq, Prod.mk.injEq, Bool.and_eq_true] at h ⊢
            obtain ⟨h1, h2, h3⟩ := h
            have hin : (decide (0 ≤ i) && decide (i < (len : Int))) = true := h2
            rw [hin, cond_true]
            exact cellF_D (d := d) (Prod.ext h1 h3)
    · rename_i s hu
      try rw [hu]
      simp only [Option.some.injEq, Prod.mk.injEq] at h ⊢
      unfold inB at h
      rw [h.2, cond_true, h.1]
    · cases h
  · cases h
theorem idxF_of {P : Program} {t : TypeId} {x ix v : Value} (h : idxD P t x ix = some v) (hk : ∀ len elem d, P.underlying t = some (.array len elem) → P.underlying elem = some d → tyB d v = true) : idxF P t x ix = some (v, true) := by
  unfold idxD partD at h
  unfold idxF
  split at h
  · rename_i k i
    split at h
    · rename_i len elem cs hu
      try rw [hu]
      try dsimp only
      cases hi : P.info? elem with
      | none => rw [hi] at h; cases h
      | some inf =>
        rw [hi] at h
        dsimp only at h ⊢
        cases hb : (decide (0 ≤ i) && decide (i < (len : Int))) with
        | false => rw [hb] at h; cases h
        | true =>
          rw [hb, cond_true] at h
          have hin : inB i len = true := hb
          cases he : P.underlying elem with
          | none => rw [he] at h; cases h
          | some d =>
            have hk := hk len elem d hu he
            rw [he] at h
            dsimp only at h ⊢
            cases hd : isAggD d with
            | true =>
              rw [hd, cond_true] at h
              cases h
              rw [hin]; rfl
            | false =>
              rw [hd, cond_false] at h
              rw [cond_false, cellF_of h hk, hin]; rfl
    · rename_i s hu
      try rw [hu]
      try dsimp only
      cases hb : (decide (0 ≤ i) && decide (i < (s.size : Nat))) with
      | false => rw [hb] at h; cases h
      | true =>
        have hin : inB i s.size = true := hb
        rw [hb, cond_true] at h
        cases h
        rw [hin]
    · cases h
  · cases h
theorem fieldF_D {P : Program} {t : TypeId} {x v : Value} {f : Nat} (h : fieldF P t x f = some (v, true)) : fieldD P t x f = some v := by
  unfold fieldF at h
  unfold fieldD partD
  split at h
  · rename_i fs cs hu
    try rw [hu]
    try dsimp only
    cases hf : fs[f]? with
    | none => rw [hf] at h; cases h
    | some fd =>
      rw [hf] at h
      dsimp only at h ⊢
      cases he : P.underlying fd.type with
      | none => rw [he] at h; cases h
      | some d =>
        rw [he] at h
        dsimp only at h ⊢
        cases hd : isAggD d with
        | true =>
          rw [hd, cond_true] at h
          rw [cond_true]
          cases hi : P.info? fd.type with
          | none => rw [hi] at h; cases h
          | some i => rw [hi] at h; cases h; rfl
        | false =>
          rw [hd, cond_false] at h
          rw [cond_false]
          exact cellF_D (Option.some.inj h)
  · cases h
theorem fieldF_of {P : Program} {t : TypeId} {x v : Value} {f : Nat} (h : fieldD P t x f = some v) (hk : ∀ (fs : Array Field) (fd : Field) d, P.underlying t = some (.struct fs) → fs[f]? = some fd → P.underlying fd.type = some d → tyB d v = true) : fieldF P t x f = some (v, true) := by
  unfold fieldD partD at h
  unfold fieldF
  split at h
  · rename_i fs cs hu
    try rw [hu]
    try dsimp only
    cases hf : fs[f]? with
    | none => rw [hf] at h; cases h
    | some fd =>
      rw [hf] at h
      dsimp only at h ⊢
      cases he : P.underlying fd.type with
      | none => rw [he] at h; cases h
      | some d =>
        have hk := hk fs fd d hu hf he
        rw [he] at h
        dsimp only at h ⊢
        cases hd : isAggD d with
        | true =>
          rw [hd, cond_true] at h
          rw [cond_true]
          cases hi : P.info? fd.type with
          | none => rw [hi] at h; cases h
          | some i => rw [hi] at h; cases h; rfl
        | false =>
          rw [hd, cond_false] at h
          rw [cond_false, cellF_of h hk]
  · cases h
theorem idxAddrF_iff {P : Program} {t : TypeId} {x ix v : Value} : idxAddrF P t x ix = some (v, true) ↔ idxAddrD P t x ix = some v := by
  unfold idxAddrF idxAddrD inB
  split
  · rename_i k i
    split
    · rename_i len elem b o hu
      cases hi : P.info? elem with
      | none => simp
      | some inf => cases hb : (decide (0 ≤ i) && decide (i < len)) <;> simp
    · rename_i elem b o len c hu
      cases hi : P.info? elem with
      | none => simp
      | some inf => cases hb : (decide (0 ≤ i) && decide (i < (len : Int))) <;> simp
    · rename_i elem k' sp len c hu
      cases hi : P.info? elem with
      | none => simp
      | some inf => cases hb : (decide (0 ≤ i) && decide (i < (len : Int))) <;> simp
    · rename_i elem k' o sp len c hu
      cases hi : P.info? elem with
      | none => simp
      | some inf => cases hb : (decide (0 ≤ i) && decide (i < (len : Int))) <;> simp
    · rename_i len elem k' o z hu
      cases hi : P.info? elem with
      | none => simp
      | some inf => cases hb : (decide (0 ≤ i) && decide (i < (len : Int))) <;> simp
    · simp
  · simp
theorem makeF_iff {P : Program} {t : TypeId} {l c : Value} {n : Nat} {cs : List Value} : makeF P t l c = some (n, cs, true) ↔ makeD P t l c = some (n, cs) := by
  unfold makeF makeD
  split
  · rename_i kl n' kc m
    split
    · rename_i e hu
      cases P.info? e with
      | none => simp
      | some i =>
        simp only
        cases i.zero with
        | none => simp
        | some z =>
          simp only [Option.some.injEq, Prod.mk.injEq]
          cases hb : (Nat.beq n' m && Nat.ble (i.bytes * n') 281474976710656 && Nat.ble n' 9223372036854775807 && z.cells.toList.all canonB && Nat.blt 0 z.cells.size) <;> simp
    · simp
  · simp
theorem boundsF_iff {len cap : Nat} {lo hi : Option Value} {l h : Nat} : boundsF len cap lo hi = some (l, h, true) ↔ boundsD len cap lo hi = some (l, h) := by
  have key : ∀ (h0 : Nat) (k : Bool), (match lo with
      | none => some (0, h0, k)
      | some (.int _ i) => some (i.toNat, h0, k && (decide (0 ≤ i) && decide (i ≤ h0)))
      | _ => none) = some (l, h, true) ↔ k = true ∧ (match lo with
      | none => some (0, h0)
      | some (.int _ i) => bif decide (0 ≤ i) && decide (i ≤ h0) then some (i.toNat, h0) else none
      | _ => none) = some (l, h) := fun h0 k => by
    split
    · simp only [Option.some.injEq, Prod.mk.injEq]
      constructor
      · rintro ⟨a, b, c⟩; exact ⟨c, a, b⟩
      · rintro ⟨c, a, b⟩; exact ⟨a, b, c⟩
    · rename_i kk i
      cases hc : (decide (0 ≤ i) && decide (i ≤ (h0 : Int))) with
      | false => simp
      | true =>
        simp only [Bool.and_true, cond_true, Option.some.injEq, Prod.mk.injEq]
        constructor
        · rintro ⟨a, b, c⟩; exact ⟨c, a, b⟩
        · rintro ⟨c, a, b⟩; exact ⟨a, b, c⟩
    · simp
  unfold boundsF boundsD
  cases hi with
  | none => exact (key len true).trans ⟨fun h => h.2, fun h => ⟨rfl, h⟩⟩
  | some y =>
    cases y with
    | int kk i =>
      refine (key i.toNat _).trans ?_
      dsimp only
      cases hc : (decide (0 ≤ i) && decide (i ≤ (cap : Int))) with
      | false => simp
      | true => exact ⟨fun h => h.2, fun h => ⟨rfl, h⟩⟩
    | _ => simp
theorem sliceF_iff {P : Program} {t : TypeId} {x v : Value} {lo hi : Option Value} : sliceF P t x lo hi = some (v, true) ↔ sliceD P t x lo hi = some v := by
  have key : ∀ (len cap : Nat) (F : Nat → Nat → Option Value) , (match boundsF len cap lo hi with
      | some (l, h, k) => (match F l h with | some u => some (u, k) | none => none)
      | none => none) = some (v, true) ↔ (match boundsD len cap lo hi with
      | some (l, h) => F l h
      | none => none) = some v := fun len cap F => by
    constructor
    · intro e
      split at e
      · rename_i l h k hb
        cases hf : F l h with
        | none => rw [hf] at e; cases e
        | some u =>
          rw [hf] at e
          simp only [Option.some.injEq, Prod.mk.injEq] at e
          obtain ⟨rfl, rfl⟩ := e
          rw [boundsF_iff.1 hb]
          exact hf
      · cases e
    · intro e
      split at e
      · rename_i l h hb
        rw [boundsF_iff.2 hb]
        dsimp only
        rw [e]
      · cases e
  unfold sliceF sliceD
  split
  · rename_i n e b o hu
    have := key n n fun l h => match P.info? e with
      | some i => some (.slice (some ⟨b, bif Nat.beq n l then o else o + l * i.size, none⟩) (h - l) (n - l))
      | none => none
    refine Iff.trans (Eq.to_iff ?_) this
    congr 1
    cases boundsF n n lo hi with
    | none => rfl
    | some r => cases P.info? e <;> rfl
  · rename_i e b o len cap hu
    cases hi : P.info? e with
    | none =>
      constructor
      · intro q
        split at q
        · cases q
        · cases q
      · intro q
        split at q
        · cases q
        · cases q
    | some i =>
    constructor
    · intro q
      split at q
      · rename_i l h k hb
        simp only [Option.some.injEq, Prod.mk.injEq, Bool.and_eq_true] at q
        obtain ⟨rfl, q1, rfl⟩ := q
        rw [boundsF_iff.1 hb]
        dsimp only
        rw [q1]; rfl
      · cases q
    · intro q
      split at q
      · rename_i l h hb
        rw [boundsF_iff.2 hb]
        dsimp only at q ⊢
        cases ho : okSl cap l i.size with
        | false => rw [ho] at q; cases q
        | true => rw [ho] at q; simpa using q
      · cases q
  · rename_i e t o z len cap hu
    have := key len len fun l h => match P.info? e with
      | some i => some (.slice (some ⟨t, o + l * i.size, some 1⟩) (h - l) cap)
      | none => none
    refine Iff.trans (Eq.to_iff ?_) this
    congr 1
    cases boundsF len len lo hi with
    | none => rfl
    | some r => cases P.info? e <;> rfl
  · rename_i s hu
    exact key s.size s.size fun l h => some (.string (s.extract l h))
  · simp
theorem look_part {P : Program} {t : TypeId} {cs : List Value} {o : Nat} {v : Value} (h : lookF P t cs o = some (v, true)) : partD P t cs o = some v := by
  have h := lookF_D h
  unfold partD
  cases hu : P.underlying t with
  | none => rw [hu] at h; cases h
  | some d =>
    rw [hu] at h
    dsimp only at h ⊢
    cases hd : isAggD d with
    | false =>
      rw [hd, cond_false] at h
      rw [cond_false]
      exact h
    | true =>
      rw [hd, cond_true] at h
      rw [cond_true]
      cases hi : P.info? t with
      | none => rw [hi] at h; cases h
      | some i =>
        rw [hi] at h
        dsimp only at h ⊢
        cases hb : Nat.ble (o + i.size) cs.length with
        | true => rw [hb, cond_true] at h; exact h
        | false => rw [hb, cond_false] at h; cases h
theorem fields_D {P : Program} {go : TypeId → Value → Value → Option (Bool × Bool)} {go' : TypeId → Value → Value → Option Bool} (hg : ∀ t x y b, go t x y = some (b, true) → go' t x y = some b) {xs ys : List Value} : ∀ {fs : List Field} {b : Bool}, eqFieldsT P go xs ys fs = some (b, true) → eqFields P go' xs ys fs = some b
  | [], b, h => by
    simp only [eqFieldsT, Option.some.injEq, Prod.mk.injEq, and_true] at h
    rw [← h]; rfl
  | f :: r, b, h => by
    rw [eqFieldsT] at h
    rw [eqFields]
    cases hn : (f.name == "_") with
    | true => rw [hn, cond_true] at h; cases h
    | false =>
      rw [hn, cond_false] at h
      rw [cond_false]
      split at h
      · rename_i a k ha
        split at h
        · rename_i b1 k' hb
          split at h
          · rename_i c g hc
            split at h
            · rename_i q g' hq
              simp only [Option.some.injEq, Prod.mk.injEq, Bool.and_eq_true] at h
              obtain ⟨rfl, ⟨rfl, rfl⟩, rfl, rfl⟩ := h
              rw [look_part ha, look_part hb]
              simp only [hg _ _ _ _ hc, fields_D hg hq]
            · cases h
          · cases h
        · cases h
      · cases h
theorem elems_D {P : Program} {go : Value → Value → Option (Bool × Bool)} {go' : Value → Value → Option Bool} (hg : ∀ x y b, go x y = some (b, true) → go' x y = some b) {e : TypeId} {size : Nat} {xs ys : List Value} : ∀ {m i : Nat} {b : Bool}, eqElemsT P go e size xs ys m i = some (b, true) → eqElems P go' e size xs ys m i = some b
  | 0, i, b, h => by
    simp only [eqElemsT, Option.some.injEq, Prod.mk.injEq, and_true] at h
    rw [← h]; rfl
  | m + 1, i, b, h => by
    rw [eqElemsT] at h
    rw [eqElems]
    split at h
    · rename_i a k ha
      split at h
      · rename_i b1 k' hb
        split at h
        · rename_i c g hc
          split at h
          · rename_i q g' hq
            simp only [Option.some.injEq, Prod.mk.injEq, Bool.and_eq_true] at h
            obtain ⟨rfl, ⟨rfl, rfl⟩, rfl, rfl⟩ := h
            rw [look_part ha, look_part hb]
            simp only [hg _ _ _ hc, elems_D hg hq]
          · cases h
        · cases h
      · cases h
    · cases h
/-- where the flag holds, the typed comparison answers as the plain one -/
theorem eqT_D {P : Program} : ∀ {d : Nat} {t : TypeId} {x y : Value} {b : Bool}, eqT P d t x y = some (b, true) → eqD P d t x y = some b
  | 0, t, x, y, b, h => by
    unfold eqT at h
    cases h
  | d + 1, t, x, y, b, h => by
    unfold eqT at h
    unfold eqD
    cases hu : P.underlying t with
    | none => rw [hu] at h; cases h
    | some td =>
      rw [hu] at h
      cases td with
      | bool =>
        dsimp only at h ⊢
        split at h
        · simpa using h
        · cases h
      | int k =>
        dsimp only at h ⊢
        split at h
        · rename_i k a k' b'
          cases hk : decide (k = k') with
          | true => rw [hk, cond_true] at h; simpa [hk] using h
          | false => rw [hk, cond_false] at h; cases h
        · cases h
      | float k =>
        dsimp only at h ⊢
        split at h
        · rename_i k a k' b'
          cases hk : sameK k k' with
          | true => rw [hk, cond_true] at h; simpa [hk] using h
          | false => rw [hk, cond_false] at h; cases h
        · cases h
      | string =>
        dsimp only at h ⊢
        split at h
        · simpa using h
        · cases h
      | struct fs =>
        dsimp only at h ⊢
        split at h
        · rename_i xs ys
          cases hk : P.stoodInHeld t with
          | true => rw [hk, cond_true] at h; cases h
          | false =>
            rw [hk, cond_false] at h
            rw [cond_false]
            exact fields_D (fun t x y b hq => eqT_D hq) h
        · cases h
      | array n e =>
        dsimp only at h ⊢
        split at h
        · rename_i xs ys
          cases hi : P.info? e with
          | none => rw [hi] at h; cases h
          | some i =>
            rw [hi] at h
            exact elems_D (fun x y b hq => eqT_D hq) h
        · cases h
      | _ => cases h
theorem binT_D {P : Program} {op : BinOp} {t : TypeId} {x y v : Value} (hs : isStrA P t x = true) (h : binT P op t x y = some (v, true)) : binD P op t x y = some v := by
  unfold binT at h
  cases hg : P.eqGuardType P.depth t with
  | true => rw [hg, cond_true] at h; cases h
  | false =>
    rw [hg, cond_false] at h
    split at h
    · rename_i xs ys
      split at h
      · rename_i b k hq
        have key : k = true → aggE P op t xs.toList ys.toList = boolD op true b := fun hk => by
          subst hk
          unfold aggE
          rw [hg, cond_false, show eqD P 6 t (.agg xs.toList.toArray) (.agg ys.toList.toArray) = some b from by simpa using eqT_D hq]
        have hu : ∃ fs, P.underlying t = some (.struct fs) := by
          cases hu : P.underlying t with
          | none => simp [isStrA, hu] at hs
          | some d => cases d with
            | struct fs => exact ⟨fs, rfl⟩
            | _ => simp [isStrA, hu] at hs
        obtain ⟨fs, hu⟩ := hu
        have hD : binD P op t (.agg xs) (.agg ys) = aggE P op t xs.toList ys.toList := by
          unfold binD aggD
          rw [hu]
        rw [hD]
        split at h
        · simp only [Option.some.injEq, Prod.mk.injEq] at h
          obtain ⟨rfl, hk⟩ := h
          rw [key hk]
          cases b <;> rfl
        · simp only [Option.some.injEq, Prod.mk.injEq] at h
          obtain ⟨rfl, hk⟩ := h
          rw [key hk]
          cases b <;> rfl
        · cases h
      · cases h
    · cases h
/-! ### The heap, turned -/
theorem getD_set_self {h : Heap} {b : Nat} (hb : b < h.length) (x : Option (List Value)) : (h.set b x).getD b none = x := by
  simp [List.getD, hb]
theorem getD_set_other {h : Heap} {b c : Nat} (hb : b ≠ c) (x : Option (List Value)) : (h.set b x).getD c none = h.getD c none := by
  simp [List.getD, hb]
theorem lt_of_getD {h : Heap} {b : Nat} {cs : List Value} (hb : h.getD b none = some cs) : b < h.length := by
  rcases Nat.lt_or_ge b h.length with hlt | hge
  · exact hlt
  · simp [List.getD, List.getElem?_eq_none hge] at hb

theorem HeapR.keep {μ : Mu} {h : Heap} {w w' : World} {B : Nat} (hh : HeapR μ h w B) (hB : B ≤ w.heap.size) (hb : Below w.heap.size w w') : HeapR μ h w' B :=
  ⟨fun b cs e => by
    obtain ⟨b', cs', T, h1, h2, h3, h4⟩ := hh.dom b cs e
    refine ⟨b', cs', T, h1, h2, ?_, h4⟩
    rw [hb.block b' ?_]
    · exact h3
    · rcases Nat.lt_or_ge b' w.heap.size with hlt | hge
      · exact hlt
      · simp [hge] at h3, fun b cs b' cs' T e h1 h2 => by
    obtain ⟨b2, cs2, T2, g1, _, g3, _⟩ := hh.dom b cs e
    rw [h1] at g1; cases g1
    refine hh.size b cs b' cs' T e h1 ?_
    rw [hb.block b' ?_] at h2
    · exact h2
    · rcases Nat.lt_or_ge b' w.heap.size with hlt | hge
      · exact hlt
      · simp [hge] at g3, hh.base, Frn.keep (Nat.le_trans hh.base hB) hb hh.inv, hh.non, hh.inj⟩

def upd (μ : Mu) (b b' n m : Nat) : Mu := ⟨fun c => if c = b then some b' else μ c, fun x => if x = b' then m else μ.sz x, fun c => if c = b then n else μ.rl c⟩
theorem upd_f {μ : Mu} {b b' n m c : Nat} : (upd μ b b' n m) c = if c = b then some b' else μ c := rfl
theorem upd_self {μ : Mu} {b b' n m : Nat} : (upd μ b b' n m) b = some b' := if_pos rfl
theorem sub_upd {μ : Mu} {b b' n m : Nat} (h : μ b = none) (hm : ∀ c, μ c = some b' → m = μ.sz b') : Sub μ (upd μ b b' n m) := fun c c' e => by
  have hne : c ≠ b := fun hc => by subst hc; rw [h] at e; cases e
  refine ⟨by rw [upd_f, if_neg hne]; exact e, ?_, ?_⟩
  · show (if c' = b' then m else μ.sz c') = μ.sz c'
    split
    · rename_i hc
      subst hc
      exact hm c e
    · rfl
  · show (if c = b then n else μ.rl c) = μ.rl c
    rw [if_neg hne]
theorem HeapR.lt {μ : Mu} {h : Heap} {w : World} {B : Nat} (hh : HeapR μ h w B) {b b' : Nat} (hb : μ b = some b') : b' < w.heap.size := by
  cases e : h.getD b none with
  | none => rw [hh.non b e] at hb; cases hb
  | some cs =>
    obtain ⟨b2, cs', T, h1, h2, h3, h4⟩ := hh.dom b cs e
    rw [hb] at h1; cases h1
    rcases Nat.lt_or_ge b' w.heap.size with hlt | hge
    · exact hlt
    · simp [hge] at h3

theorem below_setRow {B : Nat} {w : World} {g : Nat} (hB : B ≤ g) (cs : Array Value) : Below B w (w.setRow g cs) :=
  ⟨rfl, rfl, rfl, by simp, fun k hk => setRow_other w g k cs (by omega)⟩
theorem HeapR.new_sub {μ : Mu} {h : Heap} {w : World} {B : Nat} (hh : HeapR μ h w B) {b n m : Nat} (hb : μ b = none) : Sub μ (upd μ b w.heap.size n m) := sub_upd hb fun _ e => absurd (hh.lt e) (Nat.lt_irrefl _)
theorem HeapR.new {μ : Mu} {h : Heap} {w : World} {B : Nat} (hh : HeapR μ h w B) (hB : B ≤ w.heap.size) {nid : Nat} (h1 : nid < h.length) (h2 : h.getD nid none = none)
    {cs : List Value} {cs' : Array Value} (T : TypeId) (hc : VRL μ cs cs'.toList) : HeapR (upd μ nid w.heap.size cs.length cs'.size) (h.set nid (some cs)) (w.alloc (.cells cs' T)) B := by
  have hs : Sub μ (upd μ nid w.heap.size cs.length cs'.size) := hh.new_sub (hh.non nid h2)
  refine ⟨fun b ds e => ?_, fun b ds b' ds' T' e e1 e2 => ?_, hh.base, Frn.keep hh.base ((Below.refl B w).alloc hB _) hh.inv, fun b e => ?_, fun b1 b2 x d1 d2 e1 e2 => ?_⟩
  · by_cases hb : nid = b
    · subst hb
      rw [getD_set_self h1] at e
      cases e
      refine ⟨w.heap.size, cs', T, upd_self, hB, heap_alloc_new w _, ?_⟩
      have := hc.mono hs
      rw [show cs'.toList.take cs.length = cs'.toList by rw [hc.1, List.take_length]]
      exact this
    · rw [getD_set_other hb] at e
      obtain ⟨b', ds', T', g1, g2, g3, g4⟩ := hh.dom b ds e
      refine ⟨b', ds', T', (hs _ _ g1).1, g2, ?_, g4.mono hs⟩
      rw [Below.heap_alloc _ _ _ (hh.lt g1)]
      exact g3
  · by_cases hb : nid = b
    · subst hb
      rw [getD_set_self h1] at e
      cases e
      rw [upd_self] at e1
      cases e1
      rw [heap_alloc_new] at e2
      cases e2
      refine ⟨?_, .inr ?_⟩
      · show _ = (if w.heap.size = w.heap.size then _ else _)
        rw [if_pos rfl]
      · show _ = (if nid = nid then _ else _)
        rw [if_pos rfl]
    · rw [getD_set_other hb] at e
      rw [upd_f, if_neg (Ne.symm hb)] at e1
      rw [Below.heap_alloc _ _ _ (hh.lt e1)] at e2
      obtain ⟨_, q2, q3⟩ := hs _ _ e1
      rw [q2, q3]
      exact hh.size b ds b' ds' T' e e1 e2
  · by_cases hb : nid = b
    · subst hb; rw [getD_set_self h1] at e; cases e
    · rw [getD_set_other hb] at e
      rw [upd_f, if_neg (Ne.symm hb)]
      exact hh.non b e
  · rw [upd_f] at e1 e2
    split at e1
    · split at e2
      · rename_i a b; rw [a, b]
      · cases e1; exact absurd (hh.lt e2) (Nat.lt_irrefl _)
    · split at e2
      · cases e2; exact absurd (hh.lt e1) (Nat.lt_irrefl _)
      · rename_i n1 n2
        rw [getD_set_other (Ne.symm n1)] at d1
        rw [getD_set_other (Ne.symm n2)] at d2
        exact hh.inj b1 b2 x d1 d2 e1 e2
/-- a part of a row is written over -/
theorem HeapR.store {μ : Mu} {h : Heap} {w : World} {B : Nat} (hh : HeapR μ h w B) {b b' : Nat} {cs new : List Value} {cs' new' : Array Value} {T : TypeId} (h1 : h.getD b none = some cs) (h0 : cs ≠ [])
    (h2 : μ b = some b') (h3 : w.heap[b']? = some (.cells cs' T (0, 0))) (hl : new.length = cs.length) (hl' : new'.size = cs'.size) (hn : VRL μ new (new'.toList.take new.length)) : HeapR μ (h.set b (some new)) (w.setRow b' new') B := by
  have hlt := lt_of_getD h1
  obtain ⟨b0, _, _, z1, z2, _, _⟩ := hh.dom b cs h1
  rw [h2] at z1; cases z1
  have hne : new ≠ [] := fun e => h0 (List.eq_nil_of_length_eq_zero (by rw [← hl, e]; rfl))
  have key : ∀ c ds, b ≠ c → h.getD c none = some ds → ds ≠ [] → ∀ c', μ c = some c' → c' ≠ b' := fun c ds hbc e hd c' g1 hc => by
    subst hc
    refine hbc (hh.inj b c c' ?_ ?_ h2 g1)
    · rw [h1]; intro e; cases e; exact h0 rfl
    · rw [e]; intro e; cases e; exact hd rfl
  have hrow : (w.setRow b' new').heap[b']? = some (.cells new' T (0, 0)) := setRow_heap w b' cs' new' T _ h3
  refine ⟨fun c ds e => ?_, fun c ds c' ds' T' e e1 e2 => ?_, hh.base, Frn.keep hh.base (below_setRow z2 _) hh.inv, fun c e => ?_, fun b1 b2 x d1 d2 e1 e2 => ?_⟩
  · by_cases hb : b = c
    · subst hb
      rw [getD_set_self hlt] at e
      cases e
      exact ⟨b', new', T, h2, z2, hrow, hn⟩
    · rw [getD_set_other hb] at e
      obtain ⟨c', ds', T', g1, g2, g3, g4⟩ := hh.dom c ds e
      by_cases hcb : c' = b'
      · subst hcb
        by_cases hd : ds = []
        · subst hd
          exact ⟨c', new', T, g1, g2, hrow, VRL.nil⟩
        · exact absurd rfl (key c ds hb e hd c' g1)
      · refine ⟨c', ds', T', g1, g2, ?_, g4⟩
        rw [setRow_other w b' c' new' hcb]
        exact g3
  · by_cases hcb : c' = b'
    · subst hcb
      rw [hrow] at e2
      cases e2
      rw [hl']
      by_cases hb : b = c
      · subst hb
        rw [getD_set_self hlt] at e
        cases e
        rw [hl]
        obtain ⟨q1, q2⟩ := hh.size b cs c' cs' T h1 h2 h3
        refine ⟨q1, .inr ?_⟩
        rcases q2 with q2 | q2
        · exact absurd q2 h0
        · exact q2
      · rw [getD_set_other hb] at e
        exact hh.size c ds c' cs' T e e1 h3
    · rw [setRow_other w b' c' new' hcb] at e2
      by_cases hb : b = c
      · subst hb
        rw [h2] at e1; cases e1
        exact absurd rfl hcb
      · rw [getD_set_other hb] at e
        exact hh.size c ds c' ds' T' e e1 e2
  · by_cases hb : b = c
    · subst hb; rw [getD_set_self hlt] at e; cases e
    · rw [getD_set_other hb] at e; exact hh.non c e
  · refine hh.inj b1 b2 x ?_ ?_ e1 e2
    · by_cases hb : b = b1
      · subst hb; rw [h1]; intro e; cases e; exact h0 rfl
      · rw [getD_set_other hb] at d1; exact d1
    · by_cases hb : b = b2
      · subst hb; rw [h1]; intro e; cases e; exact h0 rfl
      · rw [getD_set_other hb] at d2; exact d2

theorem set_same {h : Heap} {b : Nat} {x : List Value} (e : h.getD b none = some x) : h.set b (some x) = h := by
  refine List.ext_getElem? fun i => ?_
  rw [List.getElem?_set]
  split
  · rename_i hb
    subst hb
    have hlt := lt_of_getD e
    rw [if_pos hlt]
    rw [List.getD_eq_getElem?_getD, List.getElem?_eq_getElem hlt] at e
    rw [List.getElem?_eq_getElem hlt]
    exact congrArg some e.symm
  · rfl
theorem setRow_same {w : World} {b : Nat} {cs : Array Value} {T : TypeId} (h : w.heap[b]? = some (.cells cs T (0, 0))) (k : Nat) : (w.setRow b cs).heap[k]? = w.heap[k]? := by
  by_cases hk : k = b
  · subst hk
    rw [setRow_heap w k cs cs T _ h, h]
  · exact setRow_other w b k cs hk
theorem HeapR.same {μ : Mu} {h : Heap} {w w' : World} {B : Nat} (hh : HeapR μ h w B) (hs : ∀ k : Nat, w'.heap[k]? = w.heap[k]?) (hb : Below B w w') : HeapR μ h w' B :=
  ⟨fun b cs e => by
    obtain ⟨b', cs', T, h1, h2, h3, h4⟩ := hh.dom b cs e
    exact ⟨b', cs', T, h1, h2, (hs b').trans h3, h4⟩, fun b cs b' cs' T e h1 h2 => hh.size b cs b' cs' T e h1 ((hs b').symm.trans h2), hh.base, Frn.keep hh.base hb hh.inv, hh.non, hh.inj⟩
/-! ### Loads, stores -/
theorem part_take {α : Type} {l : List α} {o n m : Nat} (h : o + n ≤ m) : ((l.take m).drop o).take n = (l.drop o).take n := by
  rw [List.drop_take, List.take_take, Nat.min_eq_left (by omega)]
theorem row_len {μ : Mu} {cs ys : List Value} (h : VRL μ cs (ys.take cs.length)) : cs.length ≤ ys.length := by
  have := h.1
  rw [List.length_take] at this
  omega
theorem load_run {P : Program} {μ : Mu} {h : Heap} {w : World} {B : Nat} (hh : HeapR μ h w B) {chk : Nat → Bool} {t : TypeId} {x x' v : Value} (hx : VR μ x x') (hl : loadD P chk h t x = some v) :
    ∃ v', (Instr.loadAt t x').run P w = .ok v' w ∧ VR μ v v' := by
  unfold loadD at hl
  split at hl
  case h_3 => cases hl
  case h_2 =>
    rename_i k o sp
    cases hu : P.underlying t with
    | none => rw [hu] at hl; cases hl
    | some d =>
      rw [hu] at hl
      simp only at hl
      cases hx with
      | ptrF _ _ l c b o' hrel =>
      have hagg : (isAgg t).run P w = .ok (isAggD d) w := by
        unfold isAgg
        rw [Sem.run_bind, run_underlying hu w]
        cases d <;> rfl
      have hcell : ∀ j u, (Frn.row k)[j]? = some u → ∃ u', w.cell? ⟨b, o' + j, none⟩ = some u' ∧ VR μ u u' := fun j u hj => by
        obtain ⟨b1, o1, u', e1, e2, e3⟩ := Frn.cell hh.inv hrel j u hj
        cases e1
        exact ⟨u', e2, by cases e3 with
          | can _ _ h => cases h <;> constructor <;> assumption
          | tok _ _ _ _ _ h => exact .sliceF _ _ _ _ _ h⟩
      cases ha : isAggD d with
      | true =>
        rw [ha] at hl
        simp only [cond_true] at hl
        cases hi : P.info? t with
        | none => rw [hi] at hl; cases hl
        | some i =>
          rw [hi] at hl
          simp only at hl
          cases hle : Nat.ble (o + i.size) (Frn.row k).length with
          | false => rw [hle] at hl; cases hl
          | true =>
            rw [hle] at hl
            simp only [cond_true, Option.some.injEq] at hl
            subst hl
            have hle' : o + i.size ≤ (Frn.row k).length := Nat.le_of_ble_eq_true hle
            have hex : ∃ ys : List Value, ys.length = i.size ∧ (∀ j y, ys[j]? = some y → w.cell? ⟨b, o' + o + j, none⟩ = some y) ∧ VRL μ (((Frn.row k).drop o).take i.size) ys := by
              have key : ∀ n, n ≤ i.size → ∃ ys : List Value, ys.length = n ∧ (∀ j y, ys[j]? = some y → w.cell? ⟨b, o' + o + j, none⟩ = some y) ∧ VRL μ (((Frn.row k).drop o).take n) ys := by
                intro n
                induction n with
                | zero => exact fun _ => ⟨[], rfl, fun j y hj => by simp at hj, by rw [List.take_zero]; exact VRL.nil⟩
                | succ n ih =>
                  intro hn
                  obtain ⟨ys, h1, h2, h3⟩ := ih (by omega)
                  have hlt : o + n < (Frn.row k).length := by omega
                  obtain ⟨u', g1, g2⟩ := hcell (o + n) _ (List.getElem?_eq_getElem hlt)
                  refine ⟨ys ++ [u'], by simp [h1], fun j y hj => ?_, ?_⟩
                  · by_cases hjn : j < n
                    · rw [List.getElem?_append_left (by omega)] at hj
                      exact h2 j y hj
                    · rw [List.getElem?_append_right (by omega)] at hj
                      have hj0 : j - ys.length = 0 := by
                        have := (List.getElem?_eq_some_iff.1 hj).1
                        simp at this; omega
                      rw [hj0] at hj
                      cases hj
                      rw [show o' + o + j = o' + (o + n) by omega]
                      exact g1
                  · rw [List.take_succ_eq_append_getElem (by simp; omega)]
                    exact h3.append (VRL.cons (by rw [List.getElem_drop]; exact g2) VRL.nil)
              exact key i.size (Nat.le_refl _)
            obtain ⟨ys, y1, y2, y3⟩ := hex
            have hl' := run_loadCells_list (P := P) w ⟨b, o' + o, none⟩ ys (fun j v hv => by
              have hadd : (⟨b, o' + o, none⟩ : Addr).add j = ⟨b, o' + o + j, none⟩ := by unfold Addr.add; split <;> simp_all
              rw [hadd]
              exact y2 j v hv)
            rw [y1] at hl'
            refine ⟨.agg ys.toArray, ?_, VR.of_agg y3⟩
            simp [Instr.loadAt, Instr.sureAddr, loadVar, Sem.run_bind, hagg, ha, Go.sizeOf, typeInfo, hi, hl']
      | false =>
        rw [ha] at hl
        simp only [cond_false] at hl
        obtain ⟨y, hy, hv⟩ := hcell o v hl
        refine ⟨y, ?_, hv⟩
        simp [Instr.loadAt, Instr.sureAddr, loadVar, Sem.run_bind, hagg, ha, hy]
  rename_i b o
  obtain ⟨b', rfl, hb⟩ := hx.ptr_inv
  cases hk : chk b with
  | false => rw [hk] at hl; cases hl
  | true =>
    rw [hk] at hl
    simp only [cond_true] at hl
    cases e : h.getD b none with
    | none => rw [e] at hl; cases hl
    | some cs =>
      rw [e] at hl
      simp only at hl
      obtain ⟨b2, cs', T, g1, g2, g3, g4⟩ := hh.dom b cs e
      rw [hb] at g1; cases g1
      have hcell : ∀ j, w.cell? ⟨b', j, none⟩ = cs'[j]? := fun j => cell_of_row w b' j cs' T _ g3
      cases hu : P.underlying t with
      | none => rw [hu] at hl; cases hl
      | some d =>
        rw [hu] at hl
        simp only at hl
        have hagg : (isAgg t).run P w = .ok (isAggD d) w := by
          unfold isAgg
          rw [Sem.run_bind, run_underlying hu w]
          cases d <;> rfl
        cases ha : isAggD d with
        | true =>
          rw [ha] at hl
          simp only [cond_true] at hl
          cases hi : P.info? t with
          | none => rw [hi] at hl; cases hl
          | some i =>
            rw [hi] at hl
            simp only at hl
            cases hle : Nat.ble (o + i.size) cs.length with
            | false => rw [hle] at hl; cases hl
            | true =>
              rw [hle] at hl
              simp only [cond_true, Option.some.injEq] at hl
              subst hl
              have hle' : o + i.size ≤ cs.length := Nat.le_of_ble_eq_true hle
              have hlen : ((cs'.toList.drop o).take i.size).length = i.size := by
                have := g4.1
                simp at this ⊢; omega
              have hl' := run_loadCells_list (P := P) w ⟨b', o, none⟩ ((cs'.toList.drop o).take i.size) (fun j v hv => by
                have hadd : (⟨b', o, none⟩ : Addr).add j = ⟨b', o + j, none⟩ := by unfold Addr.add; split <;> simp_all
                rw [hadd, hcell]
                rw [List.getElem?_take] at hv
                split at hv
                · rw [List.getElem?_drop] at hv; simpa using hv
                · cases hv)
              rw [hlen] at hl'
              have g5 := (g4.drop o).take i.size
              rw [part_take hle'] at g5
              refine ⟨.agg ((cs'.toList.drop o).take i.size).toArray, ?_, VR.of_agg g5⟩
              simp [Instr.loadAt, Instr.sureAddr, loadVar, Sem.run_bind, hagg, ha, Go.sizeOf, typeInfo, hi, hl']
        | false =>
          rw [ha] at hl
          simp only [cond_false] at hl
          obtain ⟨y, hy, hv⟩ := g4.get hl
          rw [List.getElem?_take_of_lt (List.getElem?_eq_some_iff.1 hl).1] at hy
          refine ⟨y, ?_, hv⟩
          have : w.cell? ⟨b', o, none⟩ = some y := by rw [hcell]; simpa using hy
          simp [Instr.loadAt, Instr.sureAddr, loadVar, Sem.run_bind, hagg, ha, this]

theorem store_run {P : Program} {μ : Mu} {h : Heap} {w : World} {B : Nat} (hh : HeapR μ h w B) {chk : Nat → Bool} {t : TypeId} {x x' v v' : Value} (hx : VR μ x x') (hv : VR μ v v') {b : Nat} {new : List Value}
    (hl : storeD P chk h t x v = some (b, new)) : ∃ w', (Instr.storeAt t x' v').run P w = .ok () w' ∧ HeapR μ (h.set b (some new)) w' B ∧ Below B w w' := by
  unfold storeD at hl
  split at hl
  case h_2 => cases hl
  rename_i bb o
  obtain ⟨b', rfl, hb⟩ := hx.ptr_inv
  cases hk : chk bb with
  | false => rw [hk] at hl; cases hl
  | true =>
    rw [hk] at hl
    simp only [cond_true] at hl
    cases e : h.getD bb none with
    | none => rw [e] at hl; cases hl
    | some cs =>
      rw [e] at hl
      simp only at hl
      obtain ⟨b2, cs', T, g1, g2, g3, g4⟩ := hh.dom bb cs e
      rw [hb] at g1; cases g1
      cases hi : P.info? t with
      | none => rw [hi] at hl; cases hl
      | some i =>
        rw [hi] at hl
        simp only at hl
        cases hcond : (Nat.beq v.cells.toList.length i.size && v.cells.toList.all scalarB && Nat.ble (o + v.cells.toList.length) cs.length) with
        | false => rw [hcond] at hl; cases hl
        | true =>
          rw [hcond] at hl
          simp only [cond_true] at hl
          have hc := hv.cells
          simp only [Bool.and_eq_true] at hcond
          obtain ⟨⟨c1, c2⟩, c3⟩ := hcond
          have c1' := Nat.eq_of_beq_eq_true c1
          have c3' := Nat.le_of_ble_eq_true c3
          simp only [Option.some.injEq, Prod.mk.injEq] at hl
          obtain ⟨rfl, rfl⟩ := hl
          have hone : ∀ y ∈ v'.cells.toList, y.oneCell' = true := fun y hy => by
            obtain ⟨j, hj⟩ := List.mem_iff_getElem?.1 hy
            have hjl : j < v.cells.toList.length := by
              rw [hc.1]
              exact (List.getElem?_eq_some_iff.1 hj).1
            have hm : v.cells.toList[j] ∈ v.cells.toList := List.getElem_mem hjl
            exact scalarB_one (hc.2 j _ y (List.getElem?_eq_getElem hjl) hj) (List.all_eq_true.1 c2 _ hm)
          have hsize : v'.cells.size = i.size := by
            have := hc.1
            simp at this c1'
            omega
          have hbound : o + 0 + v'.cells.toList.length ≤ cs'.size := by
            have h1 := hc.1
            have h2 := row_len g4
            simp at h1 h2 c3' ⊢
            omega
          have hst := run_storeCells_at (P := P) b' o T v'.cells.toList 0 cs' w g3 hbound hone
          simp only [Nat.add_zero] at hst
          have hst' : (Instr.storeAt t (.pointer (some ⟨b', o, none⟩)) v').run P w = .ok () (w.setRow b' (cs'.toList.take o ++ v'.cells.toList ++ cs'.toList.drop (o + v'.cells.toList.length)).toArray) := by
            simp [Instr.storeAt, Instr.sureAddr, storeVar, Sem.run_bind, Go.sizeOf, typeInfo, hi, hsize]
            simpa [hsize] using hst
          have hvl : v'.cells.toList.length = v.cells.toList.length := hc.1.symm
          by_cases h0 : cs = []
          · subst h0
            have c3'' : o + v.cells.toList.length ≤ 0 := c3'
            have ho : o = 0 := by omega
            have hv0 : v.cells.toList = [] := List.eq_nil_of_length_eq_zero (by omega)
            have hv0' : v'.cells.toList = [] := List.eq_nil_of_length_eq_zero (by omega)
            subst ho
            have hsame : (cs'.toList.take 0 ++ v'.cells.toList ++ cs'.toList.drop (0 + v'.cells.toList.length)).toArray = cs' := by
              rw [hv0']; simp
            rw [hsame] at hst'
            refine ⟨_, hst', ?_, below_setRow g2 _⟩
            rw [hv0, show setRow [] 0 [] = ([] : List Value) from rfl, set_same e]
            exact hh.same (fun k => setRow_same g3 k) (below_setRow g2 _)
          · refine ⟨_, hst', hh.store (new' := (cs'.toList.take o ++ v'.cells.toList ++ cs'.toList.drop (o + v'.cells.toList.length)).toArray) e h0 hb g3 ?_ ?_ ?_, below_setRow g2 _⟩
            · unfold setRow
              simp only [List.length_append, List.length_take, List.length_drop]
              omega
            · have := row_len g4
              simp only [List.size_toArray, List.length_append, List.length_take, List.length_drop, Array.length_toList] at this hbound ⊢
              omega
            · have hlen := row_len g4
              have q1 := g4.take o
              have q3 := g4.drop (o + v.cells.toList.length)
              rw [List.take_take, Nat.min_eq_left (by omega)] at q1
              rw [List.drop_take] at q3
              have q := (q1.append hc).append q3
              unfold setRow
              have hl2 : (cs.take o ++ v.cells.toList ++ cs.drop (o + v.cells.toList.length)).length = cs.length := by
                simp only [List.length_append, List.length_take, List.length_drop]
                omega
              rw [hl2, List.toList_toArray]
              have hT : (cs'.toList.take o ++ v'.cells.toList ++ cs'.toList.drop (o + v'.cells.toList.length)).take cs.length = cs'.toList.take o ++ v'.cells.toList ++ (cs'.toList.drop (o + v.cells.toList.length)).take (cs.length - (o + v.cells.toList.length)) := by
                rw [hvl]
                have e1 : (cs'.toList.take o ++ v'.cells.toList).length = o + v.cells.toList.length := by
                  simp only [List.length_append, List.length_take]
                  omega
                rw [List.take_append, List.take_of_length_le (by omega), e1]
              rw [hT]
              exact q
end Ev
namespace Ev
open Go Go.RowKit
variable [Frn]

theorem arr_eq (f c : Array Value) (l : List Value) : f ++ l.toArray ++ c = (f.toList ++ l ++ c.toList).toArray := by
  apply Array.ext'
  simp

def CallOk (P : Program) (call : CallD) : Prop :=
  ∀ f args h v h' k, call f args h = some (v, h', k) → k = true → ∀ μ cargs w B, VRL μ args cargs → HeapR μ h w B → B ≤ w.heap.size →
    Calls P f cargs.toArray w fun e w' => ∃ v' μ', e = .returned v' ∧ Sub μ μ' ∧ VR μ' v v' ∧ HeapR μ' h' w' B ∧ Below B w w'

def ExtOk (P : Program) (ext : Orc) : Prop :=
  ∀ f g, ext f = some g → ∀ args v k, g args = some (v, k) → k = true → ∀ μ cargs, VRL μ args cargs → ∀ w,
    ∃ v', ((callFunc f cargs.toArray).run P w = .ok (.value v') w ∨ (callFunc f cargs.toArray).run P w = .ok (.value v') { w with drawn := w.drawn + 1 }) ∧ VR μ v v'

/-- a function with a body that answers by its arguments alone, and leaves what was there -/
def PurOne (P : Program) (f : FuncId) (g : List Value → Option (Value × Bool)) : Prop :=
  (∀ cargs w, (callFunc f cargs).run P w = .ok (.enter f cargs) w) ∧ ∀ args v k, g args = some (v, k) → k = true → ∀ μ cargs w, VRL μ args cargs → Frn.base ≤ w.heap.size → Frn.inv w →
    Calls P f cargs.toArray w fun e w' => ∃ v', e = .returned v' ∧ VR μ v v' ∧ Below w.heap.size w w'
/-- bodyless functions, and those -/
def ExtOk2 (P : Program) (ext : Orc) : Prop :=
  ∀ f g, ext f = some g → (∀ args v k, g args = some (v, k) → k = true → ∀ μ cargs, VRL μ args cargs → ∀ w,
    ∃ v', ((callFunc f cargs.toArray).run P w = .ok (.value v') w ∨ (callFunc f cargs.toArray).run P w = .ok (.value v') { w with drawn := w.drawn + 1 }) ∧ VR μ v v') ∨ PurOne P f g
theorem ExtOk.two {P : Program} {ext : Orc} (h : ExtOk P ext) : ExtOk2 P ext := fun f g e => .inl (h f g e)
/-- calls answer the same where a new block has been laid -/
structure StableC (call : CallD) : Prop where
  set : ∀ f args h v h' k nid row, call f args h = some (v, h', k) → nid < h.length → h.getD nid none = none → call f args (h.set nid (some row)) = some (v, h'.set nid (some row), k)
  adds : ∀ id as h v h' k, call id as h = some (v, h', k) → h'.take h.length = h
structure EnvOk (E : Env) : Prop where
  stab : E.stb = true → StableC E.call
  ext : ExtOk2 E.P E.ext
  call : CallOk E.P E.call
  enter : ∀ f args h r, E.call f args h = some r → ∀ cargs w, (callFunc f cargs).run E.P w = .ok (.enter f cargs) w

/-- plain values know no blocks -/
theorem plain_scalar {μ μ' : Mu} {x y : Value} (h : VR μ x y) (hp : flatB x = true) : VR μ' x y := by
  cases h with
  | bool b => exact .bool b
  | int k n => exact .int k n
  | string s => exact .string s
  | float k a x h => exact .float k a x h
  | sliceF k l c a c' h => exact .sliceF k l c a c' h
  | sliceP k o l c a c' hc h => exact .sliceP k o l c a c' hc h
  | _ => cases hp
theorem plain_agg {μ μ' : Mu} {xs : Array Value} {y : Value} (h : VR μ (.agg xs) y) (hp : xs.toList.all flatB = true) : VR μ' (.agg xs) y := by
  obtain ⟨ys, rfl, h1, h2⟩ := h.agg_inv
  exact .agg _ _ h1 fun i a b ha hb => plain_scalar (h2 i a b ha hb) (List.all_eq_true.1 hp a (List.mem_of_getElem? ha))
theorem plain_VR {μ μ' : Mu} {x y : Value} (h : VR μ x y) (hp : plainB x = true) : VR μ' x y := by
  cases x with
  | bool b => exact plain_scalar h rfl
  | int k n => exact plain_scalar h rfl
  | string s => exact plain_scalar h rfl
  | float k b => exact plain_scalar h rfl
  | slice a l c =>
    match a, hp with
    | some ⟨_, _, some _⟩, _ => exact plain_scalar h rfl
  | nilFunc => cases h; exact .nilFunc
  | nilIface => cases h; exact .nilIface
  | func fn f c =>
    obtain ⟨f', c', rfl, ⟨h1, h2⟩, h3, h4⟩ := h.func_inv
    simp only [plainB, Bool.and_eq_true, List.isEmpty_iff] at hp
    obtain ⟨e1, e2⟩ := hp
    refine .func _ _ _ _ _ h1 (fun i a b ha _ => ?_) h3 (fun i a b ha _ => ?_)
    · rw [e1] at ha; simp at ha
    · rw [e2] at ha; simp at ha
  | agg xs => exact plain_agg h hp
  | tuple xs =>
    obtain ⟨ys, rfl, h1, h2⟩ := h.tuple_inv
    refine .tuple _ _ h1 fun i a b ha hb => ?_
    have hm := List.all_eq_true.1 hp a (List.mem_of_getElem? ha)
    have hr := h2 i a b ha hb
    cases a with
    | agg zs => exact plain_agg hr hm
    | bool b => exact plain_scalar hr rfl
    | int k n => exact plain_scalar hr rfl
    | string s => exact plain_scalar hr rfl
    | float k b => exact plain_scalar hr rfl
    | slice a l c =>
      match a, hm with
      | some ⟨_, _, some _⟩, _ => exact plain_scalar hr rfl
    | _ => cases hm
  | _ => cases hp
theorem plain_VRL {μ μ' : Mu} {xs ys : List Value} (h : VRL μ xs ys) (hp : xs.all plainB = true) : VRL μ' xs ys :=
  ⟨h.1, fun i a b ha hb => plain_VR (h.2 i a b ha hb) (List.all_eq_true.1 hp a (List.mem_of_getElem? ha))⟩

/-- what is known of what came in holds in this world -/
def FrnIn (w : World) : Prop := Frn.base ≤ w.heap.size ∧ Frn.inv w
theorem HeapR.start {w : World} (hw : FrnIn w) : HeapR Mu.nil [] w w.heap.size :=
  ⟨fun b cs e => by simp [List.getD] at e, fun b cs _ _ _ e => by simp [List.getD] at e, hw.1, hw.2, fun _ _ => rfl, fun _ _ _ _ _ e => by cases e⟩
theorem HeapR.frn {μ : Mu} {h : Heap} {w : World} {B : Nat} (hh : HeapR μ h w B) (hB : B ≤ w.heap.size) : FrnIn w := ⟨Nat.le_trans hh.base hB, hh.inv⟩
theorem FrnIn.keep {w w' : World} (hw : FrnIn w) (hb : Below w.heap.size w w') : FrnIn w' := ⟨Nat.le_trans hw.1 hb.size, Frn.keep hw.1 hb hw.2⟩
theorem HeapR.empty {μ : Mu} {h : Heap} {w : World} {B : Nat} (hh : HeapR μ h w B) (hB : B ≤ w.heap.size) : HeapR Mu.nil [] w w.heap.size :=
  ⟨fun b cs e => by simp [List.getD] at e, fun b cs _ _ _ e => by simp [List.getD] at e, Nat.le_trans hh.base hB, hh.inv, fun _ _ => rfl, fun _ _ _ _ _ e => by cases e⟩

/-- the operands of a call -/
theorem args_sound {μ : Mu} {t : List (Value × Bool)} {a : Act} (ht : TmpsR μ t a.tmps) : ∀ (l : List Operand), (l.all fun x => (evl t x).2) = true → VRL μ (l.map fun x => (evl t x).1) (l.map a.eval)
  | [], _ => VRL.nil
  | x :: l, h => by
    simp only [List.all_cons, Bool.and_eq_true] at h
    exact VRL.cons (evl_sound ht x h.1) (args_sound ht l h.2)

section ops
variable {E : Env} {t : List (Value × Bool)} {h : Heap} {a : Act} {w : World} {μ : Mu} {B : Nat} {o : Oper}

/-- the blocks below 'n' alone -/
def cutM (n : Nat) (μ : Mu) : Mu := ⟨fun b => if b < n then μ b else none, μ.sz, μ.rl⟩
theorem cutM_f {n : Nat} {μ : Mu} {b : Nat} : (cutM n μ) b = if b < n then μ b else none := rfl
theorem cut_sub {μ μ' : Mu} {h : Heap} {w : World} {B : Nat} (hh : HeapR μ h w B) (hs : Sub μ μ') : Sub μ (cutM h.length μ') := fun b x hb => by
  by_cases hl : b < h.length
  · rw [cutM_f, if_pos hl]; exact hs b x hb
  · exfalso
    have : h.getD b none = none := by
      rw [List.getD_eq_getElem?_getD, List.getElem?_eq_none (by omega)]; rfl
    rw [hh.non b this] at hb
    cases hb
theorem low_VR {n : Nat} {μ : Mu} {x y : Value} (h : VR μ x y) (hl : lowV n x = true) : VR (cutM n μ) x y := by
  cases h with
  | bool b => exact .bool b
  | int k n => exact .int k n
  | string s => exact .string s
  | float k a x h => exact .float k a x h
  | ptrNil => exact .ptrNil
  | ptr b o b' h =>
    refine .ptr b o b' ?_
    have : b < n := Nat.le_of_ble_eq_true (by simpa [lowV, Nat.blt] using hl)
    rw [cutM_f, if_pos this]; exact h
  | sliceNil l c => exact .sliceNil l c
  | slice b o b' l c c' h hc =>
    refine .slice b o b' l c c' ?_ hc
    have : b < n := Nat.le_of_ble_eq_true (by simpa [lowV, Nat.blt] using hl)
    rw [cutM_f, if_pos this]; exact h
  | sliceF k l c a c' h => exact .sliceF k l c a c' h
  | sliceP k o l c a c' hc h => exact .sliceP k o l c a c' hc h
  | ptrF k o l c b o' h => exact .ptrF k o l c b o' h
  | func fn f f' c c' h1 h2 h3 h4 =>
    simp only [lowV, Bool.and_eq_true, List.isEmpty_iff] at hl
    refine .func fn f f' c c' h1 (fun i x y hx _ => ?_) h3 (fun i x y hx _ => ?_)
    · rw [hl.1] at hx; cases hx
    · rw [hl.2] at hx; cases hx
  | nilFunc => exact .nilFunc
  | nilIface => exact .nilIface
  | mapNil => exact .mapNil
  | junk _ h => exact .junk _ h
  | iface t => cases hl
  | agg xs ys h1 h2 => cases hl
  | tuple xs ys h1 h2 => cases hl
theorem cut_heap {n : Nat} {μ : Mu} {h : Heap} {w : World} {B : Nat} (hh : HeapR μ h w B) (hl : lowH n (h.take n) = true) : HeapR (cutM n μ) (h.take n) w B := by
  have hg : ∀ b, b < n → (h.take n).getD b none = h.getD b none := fun b hb => by
    rw [List.getD_eq_getElem?_getD, List.getD_eq_getElem?_getD, List.getElem?_take_of_lt hb]
  have hge : ∀ b, ¬ b < n → (h.take n).getD b none = none := fun b hb => by
    rw [List.getD_eq_getElem?_getD, List.getElem?_eq_none (by rw [List.length_take]; omega)]; rfl
  refine ⟨fun b cs hb => ?_, fun b cs b' cs' T hb h1 h2 => ?_, hh.base, hh.inv, fun b hb => ?_, fun b1 b2 x d1 d2 h1 h2 => ?_⟩
  · by_cases hb' : b < n
    · have hrow := hb
      rw [hg b hb'] at hb
      obtain ⟨b', cs', T, a1, a2, a3, a4⟩ := hh.dom b cs hb
      refine ⟨b', cs', T, by rw [cutM_f, if_pos hb']; exact a1, a2, a3, ⟨a4.1, fun i x y hx hy => low_VR (a4.2 i x y hx hy) ?_⟩⟩
      unfold lowH at hl
      rw [List.all_eq_true] at hl
      have hm : some cs ∈ h.take n := by
        rw [List.getD_eq_getElem?_getD] at hrow
        cases hq : (h.take n)[b]? with
        | none => rw [hq] at hrow; cases hrow
        | some r =>
          rw [hq] at hrow
          have hrow : r = some cs := hrow
          subst hrow
          exact List.mem_of_getElem? hq
      have := hl _ hm
      simp only [List.all_eq_true] at this
      exact this x (List.mem_of_getElem? hx)
    · rw [hge b hb'] at hb; cases hb
  · by_cases hb' : b < n
    · rw [hg b hb'] at hb
      rw [cutM_f, if_pos hb'] at h1
      exact hh.size b cs b' cs' T hb h1 h2
    · rw [hge b hb'] at hb; cases hb
  · by_cases hb' : b < n
    · rw [cutM_f, if_pos hb']
      rw [hg b hb'] at hb
      exact hh.non b hb
    · rw [cutM_f, if_neg hb']
  · rw [cutM_f] at h1 h2
    split at h1
    · split at h2
      · rename_i q1 q2
        rw [hg b1 q1] at d1
        rw [hg b2 q2] at d2
        exact hh.inj b1 b2 x d1 d2 h1 h2
      · cases h2
    · cases h1
/-- what is known of old blocks holds by the old numbers -/
theorem back_VR {μ μ' : Mu} (hs : Sub μ μ') {x y : Value} (h : VR μ x y) : ∀ {z : Value}, VR μ' x z → VR μ x z := by
  induction h with
  | bool b => intro z hz; cases hz; exact .bool b
  | int k n => intro z hz; cases hz; exact .int k n
  | string s => intro z hz; cases hz; exact .string s
  | float k a x h => intro z hz; cases hz; exact .float k _ _ (by assumption)
  | ptrNil => intro z hz; cases hz; exact .ptrNil
  | ptr b o b' h =>
    intro z hz
    cases hz with
    | ptr _ _ b2 h2 => rw [(hs _ _ h).1] at h2; cases h2; exact .ptr b o b' h
  | sliceNil l c => intro z hz; cases hz; exact .sliceNil l c
  | slice b o b' l c c' h hc =>
    intro z hz
    cases hz with
    | slice _ _ b2 _ _ c2 h2 hc2 =>
      obtain ⟨q1, q2, q3⟩ := hs _ _ h
      rw [q1] at h2; cases h2
      refine .slice b o b' l c c2 h ?_
      unfold CapR at hc2 ⊢
      rw [← q2, ← q3]
      exact hc2
  | sliceF k l c a c' h => intro z hz; cases hz; exact .sliceF k l c _ _ (by assumption)
  | sliceP k o l c a c' hc h => intro z hz; cases hz; exact .sliceP k o l c _ _ (by assumption) (by assumption)
  | ptrF k o l c b o' h => intro z hz; cases hz; exact .ptrF k o _ _ _ _ (by assumption)
  | func fn f f' c c' h1 h2 h3 h4 i1 i2 =>
    intro z hz
    cases hz with
    | func _ _ f2 _ c2 g1 g2 g3 g4 =>
      refine .func _ _ _ _ _ g1 (fun i x y hx hy => ?_) g3 (fun i x y hx hy => ?_)
      · obtain ⟨y0, hy0⟩ : ∃ y0, f'.toList[i]? = some y0 := ⟨_, List.getElem?_eq_getElem (by rw [← h1]; exact (List.getElem?_eq_some_iff.1 hx).1)⟩
        exact i1 i x y0 hx hy0 (g2 i x y hx hy)
      · obtain ⟨y0, hy0⟩ : ∃ y0, c'.toList[i]? = some y0 := ⟨_, List.getElem?_eq_getElem (by rw [← h3]; exact (List.getElem?_eq_some_iff.1 hx).1)⟩
        exact i2 i x y0 hx hy0 (g4 i x y hx hy)
  | nilFunc => intro z hz; cases hz; exact .nilFunc
  | nilIface => intro z hz; cases hz; exact .nilIface
  | mapNil => intro z hz; cases hz; exact .mapNil
  | junk v h => intro z hz; cases hz; exact .junk _ (by assumption)
  | iface t => intro z hz; cases hz; exact .iface t
  | agg xs ys h1 h2 ih =>
    intro z hz
    cases hz with
    | agg _ zs g1 g2 =>
      refine .agg _ _ g1 (fun i x y hx hy => ?_)
      obtain ⟨y0, hy0⟩ : ∃ y0, ys.toList[i]? = some y0 := ⟨_, List.getElem?_eq_getElem (by rw [← h1]; exact (List.getElem?_eq_some_iff.1 hx).1)⟩
      exact ih i x y0 hx hy0 (g2 i x y hx hy)
  | tuple xs ys h1 h2 ih =>
    intro z hz
    cases hz with
    | tuple _ zs g1 g2 =>
      refine .tuple _ _ g1 (fun i x y hx hy => ?_)
      obtain ⟨y0, hy0⟩ : ∃ y0, ys.toList[i]? = some y0 := ⟨_, List.getElem?_eq_getElem (by rw [← h1]; exact (List.getElem?_eq_some_iff.1 hx).1)⟩
      exact ih i x y0 hx hy0 (g2 i x y hx hy)
theorem back_VRL {μ μ' : Mu} (hs : Sub μ μ') {x y z : List Value} (h : VRL μ x y) (hz : VRL μ' x z) : VRL μ x z :=
  ⟨hz.1, fun i a c ha hc => by
    obtain ⟨b, hb⟩ : ∃ b, y[i]? = some b := ⟨_, List.getElem?_eq_getElem (by rw [← h.1]; exact (List.getElem?_eq_some_iff.1 ha).1)⟩
    exact back_VR hs (h.2 i a b ha hb) (hz.2 i a c ha hc)⟩
theorem back_heap {μ μ' : Mu} {h h' : Heap} {w w' : World} {B : Nat} (hh : HeapR μ h w B) (hh' : HeapR μ' h' w' B) (hs : Sub μ μ') (he : h'.take h.length = h) : HeapR μ h w' B :=
  ⟨fun b cs e => by
    obtain ⟨b1, cs1, T1, a1, a2, a3, a4⟩ := hh.dom b cs e
    have hb : b < h.length := lt_of_getD e
    have e' : h'.getD b none = some cs := by
      rw [← e]
      conv => rhs; rw [← he]
      rw [List.getD_eq_getElem?_getD, List.getD_eq_getElem?_getD, List.getElem?_take_of_lt hb]
    obtain ⟨b2, cs2, T2, c1, c2, c3, c4⟩ := hh'.dom b cs e'
    rw [(hs _ _ a1).1] at c1; cases c1
    exact ⟨b1, cs2, T2, a1, c2, c3, back_VRL hs a4 c4⟩, fun b cs b' cs' T e h1 h2 => by
    have hb : b < h.length := lt_of_getD e
    have e' : h'.getD b none = some cs := by
      rw [← e]
      conv => rhs; rw [← he]
      rw [List.getD_eq_getElem?_getD, List.getD_eq_getElem?_getD, List.getElem?_take_of_lt hb]
    obtain ⟨q1, q2, q3⟩ := hs _ _ h1
    have := hh'.size b cs b' cs' T e' q1 h2
    rw [q2, q3] at this
    exact this, hh.base, hh'.inv, hh.non, hh.inj⟩
theorem call_heap (hE : EnvOk E) (hh : HeapR μ h w B) (hB : B ≤ w.heap.size) {draw : Bool} {id : FuncId} {first captured : Array Value} {f' : Value} {args cargs : List Value} {g : Bool} {r : OpRes} (hf : g = true → VR μ (.func (.func id) first captured) f') (ha : g = true → VRL μ args cargs)
    (hr : callH E draw h id (first.toList ++ args ++ captured.toList) g = some r) (hok : r.ok = true) (hrun : (execOp a.eval o).run E.P w = ((Deferred.ofValue f' cargs.toArray).run E.P w).andThen fun d w' => (invoke d.target d.args).run E.P w') :
    OpGoes E.P o a w μ B h r := by
  unfold callH at hr
  cases hv : E.call id (first.toList ++ args ++ captured.toList) h with
  | none => rw [hv] at hr; cases hr
  | some p =>
    obtain ⟨v, h', k⟩ := p
    rw [hv] at hr
    simp only at hr
    have main : g = true → k = true → ∀ (K : Act → World → Prop) (Q : Exit → Act → World → Prop), (∀ v' w' μ', Sub μ μ' → VR μ' v v' → HeapR μ' h' w' B → Below B w w' → K (a.put o.dst v') w') → o.wp E.P a w K Q := fun hg hk K Q hK => by
      obtain ⟨f1, c1, rfl, q1, q2⟩ := (hf hg).func_inv
      have hargs := (q1.append (ha hg)).append q2
      have e1 : (execOp a.eval o).run E.P w = .ok (.enter id (f1.toList ++ cargs ++ c1.toList).toArray) w := by
        rw [hrun]
        have : (callFunc id (f1 ++ cargs.toArray ++ c1)).run E.P w = .ok (.enter id (f1 ++ cargs.toArray ++ c1)) w := hE.enter _ _ _ _ hv _ w
        rw [← arr_eq]
        exact this
      have hc := hE.call id _ h v h' k hv hk μ _ w B hargs hh hB
      unfold Oper.wp
      rw [e1]
      refine hc.mono fun e w' hx => ?_
      obtain ⟨v', μ', rfl, hs, hvr, hhr, hbl⟩ := hx
      exact hK v' w' μ' hs hvr hhr hbl
    cases draw with
    | true =>
      rw [cond_true] at hr
      cases hc : E.rd with
      | false => rw [hc] at hr; cases hr
      | true =>
        rw [hc, cond_true, Option.some.injEq] at hr
        subst hr
        simp only [Bool.and_eq_true] at hok
        have hsm := addF_eq (fun hb => (hE.stab hb).adds _ _ _ _ _ _ hv) hok.2
        intro K Q hK
        refine main hok.1.1 hok.1.2 K Q fun v' w' μ' hs hvr hhr hbl => ?_
        cases hpl : plainB v with
        | true =>
          rw [hpl] at hK
          exact hK v' w' μ ⟨Sub.refl μ, ⟨fun _ => plain_VR hvr hpl, fun e => (by cases e)⟩, back_heap hh hhr hs hsm, hbl⟩
        | false =>
          rw [hpl, cond_false, more_eq hsm] at hK
          exact hK v' w' μ' ⟨hs, ⟨fun _ => hvr, fun e => (by cases e)⟩, hhr, hbl⟩
    | false =>
      rw [cond_false, Option.some.injEq] at hr
      subst hr
      simp only [Bool.and_eq_true] at hok
      intro K Q hK
      refine main hok.1 hok.2 K Q fun v' w' μ' hs hvr hhr hbl => ?_
      show K _ w'
      cases hst : E.stb with
      | true =>
        rw [hst] at hK
        exact hK v' w' μ' ⟨hs, ⟨fun _ => hvr, fun e => (by cases e)⟩, hhr, hbl⟩
      | false =>
      rw [hst, cond_false] at hK
      unfold cutH at hK
      cases hlen : Nat.ble h'.length h.length with
      | true =>
        rw [hlen] at hK
        exact hK v' w' μ' ⟨hs, ⟨fun _ => hvr, fun e => (by cases e)⟩, hhr, hbl⟩
      | false =>
      rw [hlen, cond_false] at hK
      cases hcut : (plainB v && lowH h.length (h'.take h.length)) with
      | false =>
        rw [hcut] at hK
        exact hK v' w' μ' ⟨hs, ⟨fun _ => hvr, fun e => (by cases e)⟩, hhr, hbl⟩
      | true =>
        rw [hcut] at hK
        rw [Bool.and_eq_true] at hcut
        exact hK v' w' (cutM h.length μ') ⟨cut_sub hh hs, ⟨fun _ => plain_VR hvr hcut.1, fun e => (by cases e)⟩, cut_heap hhr hcut.2, hbl⟩
theorem call_goes (hE : EnvOk E) (hh : HeapR μ h w B) (hB : B ≤ w.heap.size) {draw : Bool} {f f' : Value} {args cargs : List Value} {g : Bool} {r : OpRes} (hf : g = true → VR μ f f') (ha : g = true → VRL μ args cargs)
    (hr : callD E draw h f args g = some r) (hok : r.ok = true) (hrun : (execOp a.eval o).run E.P w = ((Deferred.ofValue f' cargs.toArray).run E.P w).andThen fun d w' => (invoke d.target d.args).run E.P w') : OpGoes E.P o a w μ B h r := by
  unfold callD at hr
  split at hr
  case h_2 => cases hr
  rename_i id first captured
  cases he : E.ext id with
  | some e =>
    rw [he] at hr
    simp only at hr
    cases hv : e (first.toList ++ args ++ captured.toList) with
    | none => rw [hv] at hr; cases hr
    | some p =>
      obtain ⟨v, k⟩ := p
      rw [hv] at hr
      simp only [Option.some.injEq] at hr
      subst hr
      simp only [Bool.and_eq_true] at hok
      obtain ⟨f1, c1, rfl, q1, q2⟩ := (hf hok.1).func_inv
      rcases hE.ext id e he with hext | ⟨hent, hpur⟩
      case inr =>
        have hargs := (q1.append (ha hok.1)).append q2
        have e1 : (execOp a.eval o).run E.P w = .ok (.enter id (f1.toList ++ cargs ++ c1.toList).toArray) w := by
          rw [hrun]
          have : (callFunc id (f1 ++ cargs.toArray ++ c1)).run E.P w = .ok (.enter id (f1 ++ cargs.toArray ++ c1)) w := hent _ w
          rw [← arr_eq]
          exact this
        have hc := hpur _ v k hv hok.2 μ _ w hargs (Nat.le_trans hh.base hB) hh.inv
        intro K Q hK
        unfold Oper.wp
        rw [e1]
        refine hc.mono fun e w' hx => ?_
        obtain ⟨v', rfl, hvr, hbl⟩ := hx
        exact hK v' w' μ ⟨Sub.refl μ, ⟨fun _ => hvr, fun e => (by cases e)⟩, hh.keep hB hbl, hbl.mono hB⟩
      obtain ⟨v', hrun', hv'⟩ := hext _ v k hv hok.2 μ (f1.toList ++ cargs ++ c1.toList) ((q1.append (ha hok.1)).append q2) w
      have e1 : (execOp a.eval o).run E.P w = (callFunc id (f1.toList ++ cargs ++ c1.toList).toArray).run E.P w := by
        rw [hrun]
        rw [← arr_eq]
        rfl
      rcases hrun' with hrun' | hrun'
      · exact goes_value hh (e1.trans hrun') hv'
      · exact goes_draw hh (e1.trans hrun') hv'
  | none =>
    rw [he] at hr
    simp only at hr
    cases hp : (first.toList ++ args ++ captured.toList).all plainB with
    | true =>
      rw [hp] at hr
      simp only [cond_true] at hr
      cases hv : E.call id (first.toList ++ args ++ captured.toList) [] with
      | none => rw [hv] at hr; cases hr
      | some p =>
        obtain ⟨v, h', k⟩ := p
        rw [hv] at hr
        simp only at hr
        cases hpl : plainB v with
        | false =>
          rw [hpl] at hr
          exact call_heap hE hh hB hf ha hr hok hrun
        | true =>
          rw [hpl] at hr
          simp only [cond_true, Option.some.injEq] at hr
          subst hr
          simp only [Bool.and_eq_true] at hok
          obtain ⟨f1, c1, rfl, q1, q2⟩ := (hf hok.1).func_inv
          have hargs := (q1.append (ha hok.1)).append q2
          have e1 : (execOp a.eval o).run E.P w = .ok (.enter id (f1.toList ++ cargs ++ c1.toList).toArray) w := by
            rw [hrun]
            have : (callFunc id (f1 ++ cargs.toArray ++ c1)).run E.P w = .ok (.enter id (f1 ++ cargs.toArray ++ c1)) w := hE.enter _ _ _ _ hv _ w
            rw [← arr_eq]
            exact this
          have hc := hE.call id _ [] v h' k hv hok.2 Mu.nil _ w w.heap.size (plain_VRL hargs hp) (hh.empty hB) (Nat.le_refl _)
          intro K Q hK
          unfold Oper.wp
          rw [e1]
          refine hc.mono fun e w' hx => ?_
          obtain ⟨v', μ', rfl, _, hvr, _, hbl⟩ := hx
          exact hK v' w' μ ⟨Sub.refl μ, ⟨fun _ => plain_VR hvr hpl, fun e => (by cases e)⟩, hh.keep hB hbl, hbl.mono hB⟩
    | false =>
      rw [hp] at hr
      exact call_heap hE hh hB hf ha hr hok hrun
end ops
end Ev
namespace Ev
open Go Go.RowKit
variable [Frn]

section
variable {P : Program} {w : World} {μ : Mu}

theorem arith_run {op : BinOp} {k : FloatKind} {x y : Nat} {f : Option Nat} {F : Nat} (t : TypeId) (h : ∀ w, (binOp op t (.float k x) (.float k y)).run P w = (match f with | some r => Result.ok (.float k r) w | none => .ok (.float k ((Question.nanBits k x y).cut (w.tape w.drawn (Question.nanBits k x y)))) { w with drawn := w.drawn + 1 }))
    (h1 : ∀ r, f = some r → isN k r = false) (hF : F = o2 k f) :
    ∃ z, ((binOp op t (.float k x) (.float k y)).run P w = .ok (.float k z) w ∨ (binOp op t (.float k x) (.float k y)).run P w = .ok (.float k z) { w with drawn := w.drawn + 1 }) ∧ F = cn k z := by
  rw [h w]
  cases f with
  | some r => exact ⟨r, .inl rfl, by rw [hF, cn_of_not (h1 r rfl)]; rfl⟩
  | none => exact ⟨_, .inr rfl, by rw [hF, cn_of_N (nanBits_cut k x y _)]; rfl⟩

theorem fbin_run {op : BinOp} {k : FloatKind} {x y : Nat} {v : Value} (t : TypeId) (h : fbin op k (cn k x) (cn k y) = some v) :
    ∃ v', ((binOp op t (.float k x) (.float k y)).run P w = .ok v' w ∨ (binOp op t (.float k x) (.float k y)).run P w = .ok v' { w with drawn := w.drawn + 1 }) ∧ VR μ v v' := by
  cases op <;> simp only [fbin] at h <;> (try cases h)
  case add =>
    obtain ⟨z, hz, e⟩ := arith_run (P := P) (w := w) (op := .add) (k := k) (x := x) (y := y) (f := k.format.add x y) (F := fadd k (cn k x) (cn k y)) t
      (fun w => by simp only [binOp, Op.floatArith]; cases k.format.add x y <;> simp [Question.forced]) add_cn.2 (by unfold fadd; rw [add_cn.1])
    exact ⟨_, hz, .float k _ z e⟩
  case sub =>
    obtain ⟨z, hz, e⟩ := arith_run (P := P) (w := w) (op := .sub) (k := k) (x := x) (y := y) (f := k.format.sub x y) (F := fsub k (cn k x) (cn k y)) t
      (fun w => by simp only [binOp, Op.floatArith]; cases k.format.sub x y <;> simp [Question.forced]) sub_cn.2 (by unfold fsub; rw [sub_cn.1])
    exact ⟨_, hz, .float k _ z e⟩
  case mul =>
    obtain ⟨z, hz, e⟩ := arith_run (P := P) (w := w) (op := .mul) (k := k) (x := x) (y := y) (f := k.format.mul x y) (F := fmul k (cn k x) (cn k y)) t
      (fun w => by simp only [binOp, Op.floatArith]; cases k.format.mul x y <;> simp [Question.forced]) mul_cn.2 (by unfold fmul; rw [mul_cn.1])
    exact ⟨_, hz, .float k _ z e⟩
  case quo =>
    obtain ⟨z, hz, e⟩ := arith_run (P := P) (w := w) (op := .quo) (k := k) (x := x) (y := y) (f := k.format.div x y) (F := fdiv k (cn k x) (cn k y)) t
      (fun w => by simp only [binOp, Op.floatArith]; cases k.format.div x y <;> simp [Question.forced]) div_cn.2 (by unfold fdiv; rw [div_cn.1])
    exact ⟨_, hz, .float k _ z e⟩
  all_goals
    refine ⟨_, .inl (by simp only [binOp, Op.floatCmp]; simp; rfl), ?_⟩
    simp only [feq, fne, flt, fle, fgt, fge, order_cn]
    exact .bool _

theorem sameK_eq {k k' : FloatKind} (h : sameK k k' = true) : k = k' := by cases k <;> cases k' <;> first | rfl | cases h

theorem eqGuard_run {op : BinOp} {t : TypeId} {x y : Operand} {v v' : Value} (h : ∀ c, v ≠ .agg c) (h' : v ≠ .nilIface) : (eqGuard op t x y v v').run P w = .ok () w := by
  cases op <;> first
    | rfl
    | (cases v <;> first
        | rfl
        | exact absurd rfl h'
        | exact absurd rfl (h _))

theorem rigid_VR {v : Value} (h : rigid v = true) : VR μ v v := by
  cases v <;> first | exact .bool _ | exact .int _ _ | exact .string _ | cases h

theorem rig_some {o : Option Value} {v : Value} (h : rig o = some v) : o = some v ∧ rigid v = true := by
  cases o with
  | none => cases h
  | some x =>
    simp only [rig] at h
    cases hr : rigid x with
    | false => rw [hr] at h; cases h
    | true => rw [hr] at h; simp only [cond_true, Option.some.injEq] at h; subst h; exact ⟨rfl, hr⟩

theorem equalIn_ints (d : Nat) {t e : TypeId} {n : Nat} {k : IntKind} {i : TypeInfo} {xs ys : Array Value} (ht : P.underlying t = some (.array n e)) (he : P.underlying e = some (.int k)) (hi : P.info? e = some i) (hs : i.size = 1)
    (hx : allInt k xs.toList = true) (hy : allInt k ys.toList = true) (lx : xs.toList.length = n) (ly : ys.toList.length = n) :
    (Op.equalIn (d + 2) t (.agg xs) (.agg ys)).run P w = .ok (eqInts xs.toList ys.toList) w := by
  have hagg : ∀ w, (isAgg e).run P w = .ok false w := fun w => by
    unfold isAgg
    rw [Sem.run_bind, run_underlying he w]
    rfl
  have hpart : ∀ (zs : Array Value) (j : Nat) v w, zs.toList[j]? = some v → (part e zs j).run P w = .ok v w := fun zs j v w h => by
    have : zs[j]? = some v := by simpa using h
    simp [part, Sem.run_bind, hagg, this]
  have hint : ∀ (zs : List Value) (j : Nat) v, allInt k zs = true → zs[j]? = some v → ∃ a, v = .int k a := by
    intro zs
    induction zs with
    | nil => intro j v _ h; simp at h
    | cons z zs ih =>
      intro j v hz h
      cases z <;> simp only [allInt, Bool.and_eq_true, decide_eq_true_eq, Bool.false_eq_true] at hz
      obtain ⟨rfl, hz⟩ := hz
      cases j with
      | zero => simp at h; exact ⟨_, h.symm⟩
      | succ j => exact ih j v hz (by simpa using h)
  unfold Op.equalIn
  simp only [Sem.run_bind, run_underlying ht, Result.andThen_ok, Go.sizeOf, typeInfo, run_program, hi, Sem.run_pure, hs, Nat.mul_one]
  rw [Std.Legacy.Range.forIn_eq_forIn_range']
  simp only [Std.Legacy.Range.size, Nat.sub_zero, Nat.add_sub_cancel, Nat.div_one]
  have key : ∀ (m j : Nat), j + m = n →
      (forIn (List.range' j m) ((none : Option Bool), ()) fun i (_ : Option Bool × Unit) => (do
        let a ← part e xs i
        let b ← part e ys i
        let r ← Op.equalIn (d + 1) e a b
        if (!r) = true then pure (ForInStep.done (some false, ())) else pure (ForInStep.yield (none, ())) : Sem (ForInStep (Option Bool × Unit)))).run P w =
        .ok (if eqInts (xs.toList.drop j) (ys.toList.drop j) then (none, ()) else (some false, ())) w := by
    intro m
    induction m with
    | zero =>
      intro j hj
      have e1 : xs.toList.drop j = [] := List.drop_eq_nil_of_le (by omega)
      rw [e1]
      simp [eqInts]
    | succ m ih =>
      intro j hj
      have hjx : j < xs.toList.length := by omega
      have hjy : j < ys.toList.length := by omega
      obtain ⟨a, ha⟩ := hint xs.toList j _ hx (List.getElem?_eq_getElem hjx)
      obtain ⟨b, hb⟩ := hint ys.toList j _ hy (List.getElem?_eq_getElem hjy)
      have hxa : xs.toList[j]? = some (.int k a) := by rw [List.getElem?_eq_getElem hjx, ha]
      have hyb : ys.toList[j]? = some (.int k b) := by rw [List.getElem?_eq_getElem hjy, hb]
      rw [List.range'_succ, List.forIn_cons, Sem.run_bind, Sem.run_bind, hpart xs j _ w hxa, Result.andThen_ok, Sem.run_bind, hpart ys j _ w hyb, Result.andThen_ok, Sem.run_bind,
        run_equalIn_int w d e k k a b he, Result.andThen_ok, List.drop_eq_getElem_cons hjx, List.drop_eq_getElem_cons hjy, ha, hb]
      simp only [eqInts]
      by_cases hab : (a == b) = true
      · have := ih (j + 1) (by omega)
        simp only [hab, Bool.not_true, Bool.false_eq_true, if_false, Sem.run_pure, Result.andThen_ok, Bool.true_and]
        exact this
      · simp only [Bool.not_eq_true] at hab
        simp [hab]
  rw [key n 0 (by omega)]
  simp only [List.drop_zero, Result.andThen_ok]
  cases eqInts xs.toList ys.toList <;> rfl

theorem allInt_VRL {k : IntKind} : ∀ {xs ys : List Value}, VRL μ xs ys → allInt k xs = true → xs = ys
  | [], [], _, _ => rfl
  | x :: xs, y :: ys, h, hx => by
    cases x <;> simp only [allInt, Bool.and_eq_true, decide_eq_true_eq, Bool.false_eq_true] at hx
    rw [h.head.int_inv, allInt_VRL h.tail hx.2]
  | [], _ :: _, h, _ => absurd h.1 (by simp)
  | _ :: _, [], h, _ => absurd h.1 (by simp)

theorem part_run {t : TypeId} {cs : List Value} {cs' : Array Value} {off : Nat} {v : Value} (hc : VRL μ cs cs'.toList) (h : partD P t cs off = some v) : ∃ v', (part t cs' off).run P w = .ok v' w ∧ VR μ v v' := by
  unfold partD at h
  cases hu : P.underlying t with
  | none => rw [hu] at h; cases h
  | some d =>
    rw [hu] at h
    simp only at h
    have hagg : (isAgg t).run P w = .ok (isAggD d) w := by
      unfold isAgg
      rw [Sem.run_bind, run_underlying hu w]
      cases d <;> rfl
    cases ha : isAggD d with
    | true =>
      rw [ha] at h
      simp only [cond_true] at h
      cases hi : P.info? t with
      | none => rw [hi] at h; cases h
      | some i =>
        rw [hi] at h
        simp only [Option.some.injEq] at h
        subst h
        refine ⟨.agg ((cs'.toList.drop off).take i.size).toArray, ?_, VR.of_agg ((hc.drop off).take i.size)⟩
        simp [part, Sem.run_bind, hagg, ha, Go.sizeOf, typeInfo, hi]
        apply Array.ext'
        simp [Array.toList_extract, List.extract_eq_take_drop]
        try omega
    | false =>
      rw [ha] at h
      simp only [cond_false] at h
      obtain ⟨y, hy, hv⟩ := hc.get h
      refine ⟨y, ?_, hv⟩
      have : cs'[off]? = some y := by simpa using hy
      simp [part, Sem.run_bind, hagg, ha, this]

theorem eqFields_run {go : TypeId → Value → Value → Option Bool} {n : Nat} {xs ys : List Value} {xs' ys' : Array Value} (hx : VRL μ xs xs'.toList) (hy : VRL μ ys ys'.toList)
    (hgo : ∀ t x y b x' y', VR μ x x' → VR μ y y' → go t x y = some b → (Op.equalIn n t x' y').run P w = .ok b w) :
    ∀ (fs : List Field) (b : Bool), eqFields P go xs ys fs = some b →
      (forIn fs ((none : Option Bool), ()) fun f (_ : Option Bool × Unit) => (do
        if f.name ≠ "_" then
          let a ← part f.type xs' f.offset
          let b ← part f.type ys' f.offset
          let r ← Op.equalIn n f.type a b
          if (!r) = true then pure (ForInStep.done (some false, ())) else pure (ForInStep.yield (none, ()))
        else pure (ForInStep.yield (none, ())) : Sem (ForInStep (Option Bool × Unit)))).run P w = .ok (if b then (none, ()) else (some false, ())) w
  | [], b, h => by cases h; rfl
  | f :: r, b, h => by
    unfold eqFields at h
    cases hn : (f.name == "_") with
    | true => rw [hn] at h; cases h
    | false =>
      rw [hn, cond_false] at h
      have hn' : f.name ≠ "_" := by simpa using hn
      cases h1 : partD P f.type xs f.offset with
      | none => rw [h1] at h; cases h
      | some a =>
        rw [h1] at h
        cases h2 : partD P f.type ys f.offset with
        | none => rw [h2] at h; cases h
        | some b0 =>
          rw [h2] at h
          dsimp only at h
          cases h3 : go f.type a b0 with
          | none => rw [h3] at h; cases h
          | some c =>
            rw [h3] at h
            dsimp only at h
            cases h4 : eqFields P go xs ys r with
            | none => rw [h4] at h; cases h
            | some q =>
              rw [h4] at h
              cases h
              obtain ⟨a', ha, va⟩ := part_run (w := w) hx h1
              obtain ⟨b', hb, vb⟩ := part_run (w := w) hy h2
              have hq := hgo f.type a b0 c a' b' va vb h3
              have ih := eqFields_run hx hy hgo r q h4
              rw [List.forIn_cons, Sem.run_bind, if_pos hn', Sem.run_bind, ha, Result.andThen_ok, Sem.run_bind, hb, Result.andThen_ok, Sem.run_bind, hq, Result.andThen_ok]
              cases c with
              | true => simp only [Bool.not_true, Bool.false_eq_true, if_false, Sem.run_pure, Result.andThen_ok, Bool.true_and]; exact ih
              | false => simp
theorem eqElems_run {go : Value → Value → Option Bool} {n : Nat} {e : TypeId} {size : Nat} {xs ys : List Value} {xs' ys' : Array Value} (hx : VRL μ xs xs'.toList) (hy : VRL μ ys ys'.toList)
    (hgo : ∀ x y b x' y', VR μ x x' → VR μ y y' → go x y = some b → (Op.equalIn n e x' y').run P w = .ok b w) :
    ∀ (m i : Nat) (b : Bool), eqElems P go e size xs ys m i = some b →
      (forIn (List.range' i m) ((none : Option Bool), ()) fun i (_ : Option Bool × Unit) => (do
        let a ← part e xs' (i * size)
        let b ← part e ys' (i * size)
        let r ← Op.equalIn n e a b
        if (!r) = true then pure (ForInStep.done (some false, ())) else pure (ForInStep.yield (none, ())) : Sem (ForInStep (Option Bool × Unit)))).run P w = .ok (if b then (none, ()) else (some false, ())) w
  | 0, i, b, h => by cases h; rfl
  | m + 1, i, b, h => by
    unfold eqElems at h
    cases h1 : partD P e xs (i * size) with
    | none => rw [h1] at h; cases h
    | some a =>
      rw [h1] at h
      cases h2 : partD P e ys (i * size) with
      | none => rw [h2] at h; cases h
      | some b0 =>
        rw [h2] at h
        dsimp only at h
        cases h3 : go a b0 with
        | none => rw [h3] at h; cases h
        | some c =>
          rw [h3] at h
          dsimp only at h
          cases h4 : eqElems P go e size xs ys m (i + 1) with
          | none => rw [h4] at h; cases h
          | some q =>
            rw [h4] at h
            cases h
            obtain ⟨a', ha, va⟩ := part_run (w := w) hx h1
            obtain ⟨b', hb, vb⟩ := part_run (w := w) hy h2
            have hq := hgo a b0 c a' b' va vb h3
            have ih := eqElems_run hx hy hgo m (i + 1) q h4
            rw [List.range'_succ, List.forIn_cons, Sem.run_bind, Sem.run_bind, ha, Result.andThen_ok, Sem.run_bind, hb, Result.andThen_ok, Sem.run_bind, hq, Result.andThen_ok]
            cases c with
            | true => simp only [Bool.not_true, Bool.false_eq_true, if_false, Sem.run_pure, Result.andThen_ok, Bool.true_and]; exact ih
            | false => simp
theorem eqD_run : ∀ (d n : Nat) (t : TypeId) (x y : Value) (b : Bool) (x' y' : Value), d ≤ n → VR μ x x' → VR μ y y' → eqD P d t x y = some b → (Op.equalIn n t x' y').run P w = .ok b w
  | 0, _, _, _, _, _, _, _, _, _, _, h => by cases h
  | d + 1, 0, _, _, _, _, _, _, hn, _, _, _ => absurd hn (by omega)
  | d + 1, n + 1, t, x, y, b, x', y', hn, hx, hy, h => by
    unfold eqD at h
    unfold Op.equalIn
    split at h
    · rename_i hu
      split at h
      · cases h
        obtain rfl := hx.bool_inv
        obtain rfl := hy.bool_inv
        rw [Sem.run_bind, run_underlying hu w]
        rfl
      · cases h
    · rename_i k0 hu
      split at h
      · rename_i k a k' b0
        obtain rfl := hx.int_inv
        obtain rfl := hy.int_inv
        cases hk : decide (k = k') with
        | false => rw [hk] at h; cases h
        | true =>
          rw [hk] at h
          cases h
          rw [Sem.run_bind, run_underlying hu w, Result.andThen_ok]
          simp only [of_decide_eq_true hk, if_true, Sem.run_pure]
      · cases h
    · rename_i k0 hu
      split at h
      · rename_i k a k' b0
        obtain ⟨a', rfl, ea⟩ := hx.float_inv
        obtain ⟨b', rfl, eb⟩ := hy.float_inv
        cases hk : sameK k k' with
        | false => rw [hk] at h; cases h
        | true =>
          rw [hk] at h
          have hk := sameK_eq hk
          subst hk
          cases h
          rw [Sem.run_bind, run_underlying hu w, Result.andThen_ok]
          simp only [if_true, Sem.run_pure]
          rw [ea, eb]
          unfold feq Op.floatEq
          rw [order_cn]
      · cases h
    · rename_i hu
      split at h
      · cases h
        obtain rfl := hx.string_inv
        obtain rfl := hy.string_inv
        rw [Sem.run_bind, run_underlying hu w]
        rfl
      · cases h
    · rename_i fs hu
      split at h
      · rename_i xs ys
        obtain ⟨xs', rfl, hxs⟩ := hx.agg_inv
        obtain ⟨ys', rfl, hys⟩ := hy.agg_inv
        cases hst : P.stoodInHeld t with
        | true => rw [hst] at h; cases h
        | false =>
          rw [hst, cond_false] at h
          have key := eqFields_run (P := P) (w := w) (n := n) hxs hys (fun t x y b x' y' h1 h2 h3 => eqD_run d n t x y b x' y' (by omega) h1 h2 h3) fs.toList b h
          simp only [Sem.run_bind, run_underlying hu, Result.andThen_ok, run_program, hst, Bool.false_eq_true, if_false]
          rw [← Array.forIn_toList]
          rw [key]
          cases b <;> rfl
      · cases h
    · rename_i m e hu
      split at h
      · rename_i xs ys
        obtain ⟨xs', rfl, hxs⟩ := hx.agg_inv
        obtain ⟨ys', rfl, hys⟩ := hy.agg_inv
        split at h
        · rename_i i hi
          have key := eqElems_run (P := P) (w := w) (n := n) (e := e) (size := i.size) hxs hys (fun x y b x' y' h1 h2 h3 => eqD_run d n e x y b x' y' (by omega) h1 h2 h3) m 0 b h
          simp only [Sem.run_bind, run_underlying hu, Result.andThen_ok, Go.sizeOf, typeInfo, run_program, hi, Sem.run_pure]
          rw [Std.Legacy.Range.forIn_eq_forIn_range']
          simp only [Std.Legacy.Range.size, Nat.sub_zero, Nat.add_sub_cancel, Nat.div_one]
          rw [key]
          cases b <;> rfl
        · cases h
      · cases h
    · cases h
theorem aggE_run {op : BinOp} {t : TypeId} {xs ys : Array Value} {v x' y' : Value} (ox oy : Operand) (hx : VR μ (.agg xs) x') (hy : VR μ (.agg ys) y') (h : aggE P op t xs.toList ys.toList = some v) :
    (do eqGuard op t ox oy x' y'; binOp op t x' y' : Sem Value).run P w = .ok v w ∧ VR μ v v := by
  unfold aggE at h
  obtain ⟨xs', rfl, hxs⟩ := hx.agg_inv
  obtain ⟨ys', rfl, hys⟩ := hy.agg_inv
  cases hgt : P.eqGuardType P.depth t with
  | true => rw [hgt] at h; cases h
  | false =>
    rw [hgt, cond_false] at h
    cases hd : eqD P 6 t (.agg xs) (.agg ys) with
    | none => rw [show eqD P 6 t (.agg xs.toList.toArray) (.agg ys.toList.toArray) = _ from hd] at h; cases h
    | some b =>
      rw [show eqD P 6 t (.agg xs.toList.toArray) (.agg ys.toList.toArray) = _ from hd] at h
      have hg' : ∀ op, (eqGuard op t ox oy (.agg xs') (.agg ys')).run P w = .ok () w := fun op => by
        cases op <;> first
          | rfl
          | (unfold eqGuard
             simp only [Bool.not_true, Bool.false_eq_true, if_false, Sem.run_bind, run_program, Result.andThen_ok, hgt, Bool.not_false, if_true, Sem.run_pure])
      have hq : (Op.equal t (.agg xs') (.agg ys')).run P w = .ok b w := eqD_run 6 10000 t _ _ b _ _ (by decide) hx hy hd
      cases op <;> simp only [boolD, Option.some.injEq, reduceCtorEq] at h
      · subst h
        refine ⟨?_, .bool _⟩
        rw [Sem.run_bind, hg', Result.andThen_ok]
        simp only [binOp, Sem.run_bind, hq, Result.andThen_ok, Sem.run_pure, Bool.true_beq]
      · subst h
        refine ⟨?_, .bool _⟩
        rw [Sem.run_bind, hg', Result.andThen_ok]
        simp only [binOp, Sem.run_bind, hq, Result.andThen_ok, Sem.run_pure, Bool.true_beq]

theorem bin_run {op : BinOp} {t : TypeId} {x y v x' y' : Value} (ox oy : Operand) (hx : VR μ x x') (hy : VR μ y y') (h : binD P op t x y = some v) :
    ∃ v', ((do eqGuard op t ox oy x' y'; binOp op t x' y' : Sem Value).run P w = .ok v' w ∨ (do eqGuard op t ox oy x' y'; binOp op t x' y' : Sem Value).run P w = .ok v' { w with drawn := w.drawn + 1 }) ∧ VR μ v v' := by
  have hg : (∀ c, x' ≠ .agg c) → x' ≠ .nilIface → (do eqGuard op t ox oy x' y'; binOp op t x' y' : Sem Value).run P w = (binOp op t x' y').run P w := fun h1 h2 => by
    rw [Sem.run_bind, eqGuard_run h1 h2]; rfl
  unfold binD at h
  split at h
  case h_1 k a k' b =>
    obtain ⟨p, rfl, rfl⟩ := hx.float_inv
    obtain ⟨q, rfl, rfl⟩ := hy.float_inv
    cases hs : sameK k k' with
    | false => rw [hs] at h; cases h
    | true =>
      have := sameK_eq hs; subst this
      rw [hs] at h
      simp only [cond_true] at h
      rw [hg (by simp) (by simp)]
      exact fbin_run t h
  case h_2 k a k' b =>
    obtain rfl := hx.int_inv
    obtain rfl := hy.int_inv
    obtain ⟨h, hz⟩ := rig_some h
    rw [hg (by simp) (by simp)]
    exact ⟨v, .inl (pureS_run h w), rigid_VR hz⟩
  case h_3 a b =>
    obtain rfl := hx.string_inv
    obtain rfl := hy.string_inv
    obtain ⟨h, hz⟩ := rig_some h
    rw [hg (by simp) (by simp)]
    exact ⟨v, .inl (pureS_run h w), rigid_VR hz⟩
  case h_4 a b =>
    obtain rfl := hx.bool_inv
    obtain rfl := hy.bool_inv
    rw [hg (by simp) (by simp)]
    split at h
    · rename_i hu
      have he : (Op.equal t (.bool a) (.bool b)).run P w = .ok (a == b) w := by
        unfold Op.equal Op.maxDepth Op.equalIn
        rw [Sem.run_bind, run_underlying hu w]
        rfl
      cases op <;> simp only [boolD, Option.some.injEq, reduceCtorEq] at h
      · subst h
        refine ⟨_, .inl ?_, .bool _⟩
        simp only [binOp, Sem.run_bind, he, Result.andThen_ok, Sem.run_pure]
      · subst h
        refine ⟨_, .inl ?_, .bool _⟩
        simp only [binOp, Sem.run_bind, he, Result.andThen_ok, Sem.run_pure]
    · cases h
  case h_5 xs ys =>
    unfold aggD at h
    split at h
    case h_2 => exact ⟨v, .inl (aggE_run ox oy hx hy h).1, (aggE_run (P := P) (w := w) ox oy hx hy h).2⟩
    rename_i n e ht
    split at h
    case h_2 => exact ⟨v, .inl (aggE_run ox oy hx hy h).1, (aggE_run (P := P) (w := w) ox oy hx hy h).2⟩
    obtain ⟨xs', rfl, hxs⟩ := hx.agg_inv
    obtain ⟨ys', rfl, hys⟩ := hy.agg_inv
    rename_i k he
    cases hi : P.info? e with
    | none => rw [hi] at h; cases h
    | some i =>
      rw [hi] at h
      simp only at h
      cases hc : (Nat.beq i.size 1 && allInt k xs.toList && allInt k ys.toList && Nat.beq xs.toList.length n && Nat.beq ys.toList.length n && !(P.eqGuardType P.depth t)) with
      | false => rw [hc] at h; cases h
      | true =>
        rw [hc] at h
        simp only [cond_true] at h
        simp only [Bool.and_eq_true, Bool.not_eq_true'] at hc
        obtain ⟨⟨⟨⟨⟨c1, c2⟩, c3⟩, c4⟩, c5⟩, c6⟩ := hc
        have ex := allInt_VRL hxs c2
        have ey := allInt_VRL hys c3
        have ex' : xs = xs' := Array.ext' ex
        have ey' : ys = ys' := Array.ext' ey
        subst ex' ey'
        have hg' : ∀ op, (eqGuard op t ox oy (.agg xs) (.agg ys)).run P w = .ok () w := fun op => by
          cases op <;> first
            | rfl
            | (unfold eqGuard
               simp only [Bool.not_true, Bool.false_eq_true, if_false, Sem.run_bind, run_program, Result.andThen_ok, c6, Bool.not_false, if_true, Sem.run_pure])
        have hq : (Op.equal t (.agg xs) (.agg ys)).run P w = .ok (eqInts xs.toList ys.toList) w :=
          equalIn_ints 9998 ht he hi (Nat.eq_of_beq_eq_true c1) c2 c3 (Nat.eq_of_beq_eq_true c4) (Nat.eq_of_beq_eq_true c5)
        cases op <;> simp only [boolD, Option.some.injEq, reduceCtorEq] at h
        · subst h
          refine ⟨_, .inl ?_, .bool _⟩
          rw [Sem.run_bind, hg', Result.andThen_ok]
          simp only [binOp, Sem.run_bind, hq, Result.andThen_ok, Sem.run_pure, Bool.true_beq]
        · subst h
          refine ⟨_, .inl ?_, .bool _⟩
          rw [Sem.run_bind, hg', Result.andThen_ok]
          simp only [binOp, Sem.run_bind, hq, Result.andThen_ok, Sem.run_pure, Bool.true_beq]
  case h_6 => cases h

theorem un_run {op : UnOp} {x v x' : Value} (hx : VR μ x x') (h : unD P op x = some v) : ∃ v', (Op.unary op x').run P w = .ok v' w ∧ VR μ v v' := by
  unfold unD at h
  split at h
  case h_1 k a =>
    obtain ⟨p, rfl, rfl⟩ := hx.float_inv
    cases h
    exact ⟨_, rfl, .float k _ _ (cn_neg k p)⟩
  case h_2 b =>
    obtain rfl := hx.bool_inv
    cases h
    exact ⟨_, rfl, .bool _⟩
  case h_3 k n =>
    obtain rfl := hx.int_inv
    obtain ⟨h, hz⟩ := rig_some h
    exact ⟨v, pureS_run h w, rigid_VR hz⟩
  case h_4 => cases h

theorem cvF (s d : FloatKind) (hne : sameK s d = false) (x : Nat) (w : World) : fcvOk s d (cn s x) = true →
    ∃ z, ((Conv.floatToFloat s x d).run P w = .ok (.float d z) w ∨ (Conv.floatToFloat s x d).run P w = .ok (.float d z) { w with drawn := w.drawn + 1 }) ∧ fcv s d (cn s x) = cn d z := by
  have hne' : s ≠ d := fun e => by subst e; cases s <;> cases hne
  intro hok
  unfold Conv.floatToFloat
  rw [if_neg hne']
  cases hx : isN s x with
  | true =>
    obtain ⟨g, q, e⟩ := read_N hx
    obtain ⟨g', q', e'⟩ := read_N (isN_qn s)
    have e1 : s.decode x = .nan g q := e
    rw [e1]
    refine ⟨_, .inr (by simp [Question.forced]; rfl), ?_⟩
    rw [cn_of_N hx, cn_of_N (nanConv_cut d x _)]
    unfold fcv
    rw [e']
  | false =>
    rw [cn_of_not hx] at hok ⊢
    unfold fcv
    unfold fcvOk at hok
    cases e : s.format.read x with
    | nan g q => rw [isN, e] at hx; cases hx
    | infinity g =>
      have e1 : s.decode x = .infinity g := e
      rw [e1]
      refine ⟨_, .inl rfl, ?_⟩
      exact (cn_of_not (write_cn d rfl)).symm
    | number g m q =>
      have e1 : s.decode x = .number g m q := e
      rw [e] at hok
      rw [e1]
      simp only [Bool.not_eq_true'] at hok
      refine ⟨d.encode (.number g m q), .inl ?_, ?_⟩
      · have : (d.decode (d.encode (.number g m q))).isInfinity = false := hok
        simp [this]
      · exact (cn_of_not (write_cn d rfl)).symm

theorem cvI (s : FloatKind) (d : IntKind) (x : Nat) (w : World) (h : ftoiOk s d (cn s x) = true) : (Conv.floatToInt s x d).run P w = .ok (.int d (ftoi s (cn s x))) w := by
  cases hx : isN s x with
  | true =>
    rw [cn_of_N hx] at h
    cases s <;> cases h
  | false =>
    rw [cn_of_not hx] at h ⊢
    unfold ftoiOk at h
    unfold ftoi Conv.floatToInt
    split at h
    · rename_i n hn
      rw [Bool.and_eq_true, decide_eq_true_eq, decide_eq_true_eq] at h
      simp only [hn, h.1, h.2, and_self, if_true]
      rfl
    · cases h
theorem cv_run {s d : TypeId} {x v x' : Value} {ok : Bool} (hx : VR μ x x') (h : cvD P s d x = some (v, ok)) (hok : ok = true) :
    ∃ v', ((convert s d x').run P w = .ok v' w ∨ (convert s d x').run P w = .ok v' { w with drawn := w.drawn + 1 }) ∧ VR μ v v' := by
  subst hok
  unfold cvD at h
  split at h
  case h_1 k a =>
    obtain ⟨p, rfl, rfl⟩ := hx.float_inv
    split at h
    case h_3 => cases h
    case h_2 =>
      rename_i k0 k' hs hd
      simp only [Option.some.injEq, Prod.mk.injEq] at h
      obtain ⟨rfl, hok⟩ := h
      have hc : (convert s d (.float k p)).run P w = (Conv.floatToInt k p k').run P w := by
        unfold convert
        rw [Sem.run_bind, run_underlying hs, Result.andThen_ok, Sem.run_bind, run_underlying hd, Result.andThen_ok]
      exact ⟨_, .inl (hc.trans (cvI k k' p w hok)), .int _ _⟩
    rename_i k0 k' hs hd
    have hc : (convert s d (.float k p)).run P w = (Conv.floatToFloat k p k').run P w := by
      unfold convert
      rw [Sem.run_bind, run_underlying hs, Result.andThen_ok, Sem.run_bind, run_underlying hd, Result.andThen_ok]
    cases k <;> cases k' <;> simp only [Option.some.injEq, Prod.mk.injEq, and_true] at h
    · subst h
      exact ⟨.float .f32 p, .inl (by rw [hc]; simp [Conv.floatToFloat]), .float _ _ _ rfl⟩
    · subst h
      obtain ⟨z, hz, e⟩ := cvF (P := P) .f32 .f64 rfl p w (fcvOk_widen _)
      exact ⟨.float .f64 z, by rw [hc]; exact hz, .float _ _ z e⟩
    · obtain ⟨rfl, hok⟩ := h
      obtain ⟨z, hz, e⟩ := cvF (P := P) .f64 .f32 rfl p w hok
      exact ⟨.float .f32 z, by rw [hc]; exact hz, .float _ _ z e⟩
    · subst h
      exact ⟨.float .f64 p, .inl (by rw [hc]; simp [Conv.floatToFloat]), .float _ _ _ rfl⟩
  case h_2 k n =>
    obtain rfl := hx.int_inv
    cases e : pureS P (convert s d (.int k n)) with
    | none => rw [e] at h; cases h
    | some u =>
      rw [e] at h
      simp only [Option.some.injEq, Prod.mk.injEq] at h
      obtain ⟨rfl, hc⟩ := h
      refine ⟨u, .inl (pureS_run e w), ?_⟩
      simp only [Bool.or_eq_true] at hc
      exact hc.elim rigid_VR canonB_VR
  case h_3 b =>
    obtain rfl := hx.string_inv
    cases e : rig (pureS P (convert s d (.string b))) with
    | none => rw [e] at h; cases h
    | some u =>
      rw [e] at h
      simp only [Option.some.injEq, Prod.mk.injEq, and_true] at h
      subst h
      obtain ⟨e, hz⟩ := rig_some e
      exact ⟨u, .inl (pureS_run e w), rigid_VR hz⟩
  case h_4 => cases h

theorem idx_run {t : TypeId} {x ix v x' ix' : Value} (hx : VR μ x x') (hi : VR μ ix ix') (h : idxD P t x ix = some v) : ∃ v', (Instr.index t x' ix').run P w = .ok v' w ∧ VR μ v v' := by
  unfold idxD at h
  split at h
  case h_2 => cases h
  rename_i k i
  obtain rfl := hi.int_inv
  split at h
  case h_3 => cases h
  case h_2 =>
    rename_i s hu
    cases hc : (decide (0 ≤ i) && decide (i < (s.size : Nat))) with
    | false => rw [hc] at h; cases h
    | true =>
      rw [hc, cond_true, Option.some.injEq] at h
      subst h
      obtain rfl := hx.string_inv
      simp only [Bool.and_eq_true, decide_eq_true_eq] at hc
      refine ⟨_, ?_, .int _ _⟩
      unfold Instr.index
      simp only [asIntOf, Sem.run_bind, Sem.run_pure, Result.andThen_ok, run_underlying hu]
      have hlt : i.toNat < s.size := by omega
      have hl : i.toNat < s.data.toList.length := by rw [Array.length_toList]; exact hlt
      have e1 : s[i.toNat]? = some (s[i.toNat]'hlt) := getElem?_pos s i.toNat hlt
      have e2 : s.data.toList.getD i.toNat 0 = s[i.toNat]'hlt := by
        rw [List.getD_eq_getElem?_getD, List.getElem?_eq_getElem hl, Option.getD_some, Array.getElem_toList]
        rfl
      rw [if_pos hc.1, e1, e2]
      rfl
  rename_i len elem cs hu
  obtain ⟨ys, rfl, hys⟩ := hx.agg_inv
  cases hf : P.info? elem with
  | none => rw [hf] at h; cases h
  | some inf =>
    rw [hf] at h
    simp only at h
    cases hc : (decide (0 ≤ i) && decide (i < len)) with
    | false => rw [hc] at h; cases h
    | true =>
      rw [hc] at h
      simp only [cond_true] at h
      simp only [Bool.and_eq_true, decide_eq_true_eq] at hc
      obtain ⟨v', hv', hr⟩ := part_run (w := w) hys h
      refine ⟨v', ?_, hr⟩
      unfold Instr.index
      simp only [asIntOf, Sem.run_bind, Sem.run_pure, Result.andThen_ok, run_underlying hu]
      rw [if_pos hc]
      simpa [Go.sizeOf, typeInfo, hf] using hv'

theorem idxAddr_run {t : TypeId} {x ix v x' ix' : Value} (hx : VR μ x x') (hi : VR μ ix ix') (h : idxAddrD P t x ix = some v) : ∃ v', (Instr.indexAt t x' ix').run P w = .ok v' w ∧ VR μ v v' := by
  have hadd : ∀ (b o n : Nat), (⟨b, o, none⟩ : Addr).add n = ⟨b, o + n, none⟩ := fun b o n => by unfold Addr.add; split <;> simp_all
  unfold idxAddrD at h
  split at h
  case h_2 => cases h
  rename_i k i
  obtain rfl := hi.int_inv
  split at h
  case h_6 => cases h
  · rename_i len elem b o hu
    obtain ⟨b', rfl, hb⟩ := hx.ptr_inv
    cases hf : P.info? elem with
    | none => rw [hf] at h; cases h
    | some inf =>
      rw [hf] at h
      simp only at h
      cases hc : (decide (0 ≤ i) && decide (i < len)) with
      | false => rw [hc] at h; cases h
      | true =>
        rw [hc] at h
        simp only [cond_true, Option.some.injEq] at h
        subst h
        simp only [Bool.and_eq_true, decide_eq_true_eq] at hc
        refine ⟨.pointer (some ⟨b', o + i.toNat * inf.size, none⟩), ?_, .ptr _ _ _ hb⟩
        unfold Instr.indexAt
        simp only [asIntOf, Sem.run_bind, Sem.run_pure, Result.andThen_ok, run_underlying hu, Instr.sureAddr]
        rw [if_pos hc]
        simp [Go.sizeOf, typeInfo, hf, hadd]
  · rename_i elem b o len c hu
    obtain ⟨b', c', rfl, hb, _⟩ := hx.slice_inv
    cases hf : P.info? elem with
    | none => rw [hf] at h; cases h
    | some inf =>
      rw [hf] at h
      simp only at h
      cases hc : (decide (0 ≤ i) && decide (i < (len : Int))) with
      | false => rw [hc] at h; cases h
      | true =>
        rw [hc] at h
        simp only [cond_true, Option.some.injEq] at h
        subst h
        simp only [Bool.and_eq_true, decide_eq_true_eq] at hc
        refine ⟨.pointer (some ⟨b', o + i.toNat * inf.size, none⟩), ?_, .ptr _ _ _ hb⟩
        unfold Instr.indexAt
        simp only [asIntOf, Sem.run_bind, Sem.run_pure, Result.andThen_ok, run_underlying hu, Instr.sureAddr]
        rw [if_pos hc]
        simp [Go.sizeOf, typeInfo, hf, hadd]
  · rename_i elem kk sp len c hu
    cases hf : P.info? elem with
    | none => rw [hf] at h; cases h
    | some inf =>
      rw [hf] at h
      simp only at h
      cases hc : (decide (0 ≤ i) && decide (i < (len : Int))) with
      | false => rw [hc] at h; cases h
      | true =>
        rw [hc] at h
        simp only [cond_true, Option.some.injEq] at h
        subst h
        simp only [Bool.and_eq_true, decide_eq_true_eq] at hc
        cases hx with
        | sliceF _ _ _ a c' hrel =>
          obtain ⟨b', o', rfl⟩ := Frn.addr hrel (by omega)
          refine ⟨.pointer (some ⟨b', o' + i.toNat * inf.size, none⟩), ?_, .ptrF _ _ _ _ _ _ hrel⟩
          unfold Instr.indexAt
          simp only [asIntOf, Sem.run_bind, Sem.run_pure, Result.andThen_ok, run_underlying hu, Instr.sureAddr]
          rw [if_pos hc]
          simp [Go.sizeOf, typeInfo, hf, hadd]
        | sliceP _ _ _ _ a c' hcc hh =>
          obtain ⟨b', o', L, C, hrel, rfl⟩ := hh (by omega)
          refine ⟨.pointer (some ⟨b', o' + i.toNat * inf.size, none⟩), ?_, .ptrF _ _ _ _ _ _ hrel⟩
          unfold Instr.indexAt
          simp only [asIntOf, Sem.run_bind, Sem.run_pure, Result.andThen_ok, run_underlying hu, Instr.sureAddr]
          rw [if_pos hc]
          simp [Go.sizeOf, typeInfo, hf, hadd]
  · rename_i elem kk oo sp len c hu
    cases hf : P.info? elem with
    | none => rw [hf] at h; cases h
    | some inf =>
      rw [hf] at h
      simp only at h
      cases hc : (decide (0 ≤ i) && decide (i < (len : Int))) with
      | false => rw [hc] at h; cases h
      | true =>
        rw [hc] at h
        simp only [cond_true, Option.some.injEq] at h
        subst h
        simp only [Bool.and_eq_true, decide_eq_true_eq] at hc
        cases hx with
        | sliceP _ _ _ _ a c' hcc hh =>
          obtain ⟨b', o', L, C, hrel, rfl⟩ := hh (by omega)
          refine ⟨.pointer (some ⟨b', o' + (oo + 1 + i.toNat * inf.size), none⟩), ?_, .ptrF _ _ _ _ _ _ hrel⟩
          unfold Instr.indexAt
          simp only [asIntOf, Sem.run_bind, Sem.run_pure, Result.andThen_ok, run_underlying hu, Instr.sureAddr]
          rw [if_pos hc, ← Nat.add_assoc]
          simp [Go.sizeOf, typeInfo, hf, hadd]
  · rename_i len elem kk o z hu
    cases hx with
    | ptrF _ _ l c b' o' hrel =>
    cases hf : P.info? elem with
    | none => rw [hf] at h; cases h
    | some inf =>
      rw [hf] at h
      simp only at h
      cases hc : (decide (0 ≤ i) && decide (i < (len : Int))) with
      | false => rw [hc] at h; cases h
      | true =>
        rw [hc] at h
        simp only [cond_true, Option.some.injEq] at h
        subst h
        simp only [Bool.and_eq_true, decide_eq_true_eq] at hc
        refine ⟨.pointer (some ⟨b', o' + (o + i.toNat * inf.size), none⟩), ?_, .ptrF _ _ _ _ _ _ hrel⟩
        unfold Instr.indexAt
        simp only [asIntOf, Sem.run_bind, Sem.run_pure, Result.andThen_ok, run_underlying hu, Instr.sureAddr]
        rw [if_pos hc, ← Nat.add_assoc]
        simp [Go.sizeOf, typeInfo, hf, hadd]

/-! ### Slices, lengths, composites -/
theorem bounds_run {isSlice : Bool} {len cap : Nat} {lo hi lo' hi' : Option Value} {l h : Nat} (h1 : ∀ v, lo = some v → ∃ v', lo' = some v' ∧ VR μ v v') (h2 : ∀ v, hi = some v → ∃ v', hi' = some v' ∧ VR μ v v')
    (n1 : lo = none → lo' = none) (n2 : hi = none → hi' = none) (hb : boundsD len cap lo hi = some (l, h)) : (Instr.sliceBounds isSlice len cap lo' hi' none).run P w = .ok (l, h, cap) w := by
  unfold boundsD at hb
  have one : ∀ (i : Int) (k : IntKind) (top : Nat) (code : BoundsCode), 0 ≤ i ∧ i ≤ top → (Instr.sliceBound (.int k i) top code).run P w = .ok i.toNat w := fun i k top code hi => by
    unfold Instr.sliceBound
    simp only [asIntOf, Sem.run_bind, Sem.run_pure, Result.andThen_ok]
    rw [if_pos hi]
    rfl
  have low : ∀ h', (match lo with | none => some (0, h') | some (.int _ i) => bif decide (0 ≤ i) && decide (i ≤ h') then some (i.toNat, h') else none | _ => none) = some (l, h) →
      h' = h ∧ (match lo' with | some v => Instr.sliceBound v h' .sliceB | none => (pure 0 : Sem Nat)).run P w = .ok l w := fun h' hl => by
    cases hlo : lo with
    | none =>
      rw [hlo] at hl
      simp only [Option.some.injEq, Prod.mk.injEq] at hl
      obtain ⟨rfl, rfl⟩ := hl
      rw [n1 hlo]
      exact ⟨rfl, rfl⟩
    | some v =>
      rw [hlo] at hl
      obtain ⟨v', e, hv⟩ := h1 v hlo
      cases v with
      | int k i =>
        simp only at hl
        cases hc : (decide (0 ≤ i) && decide (i ≤ (h' : Int))) with
        | false => rw [hc] at hl; cases hl
        | true =>
          rw [hc] at hl
          simp only [cond_true, Option.some.injEq, Prod.mk.injEq] at hl
          obtain ⟨rfl, rfl⟩ := hl
          simp only [Bool.and_eq_true, decide_eq_true_eq] at hc
          rw [e, hv.int_inv]
          exact ⟨rfl, one i k h' _ hc⟩
      | _ => cases hl
  cases hhi : hi with
  | none =>
    rw [hhi] at hb
    simp only at hb
    obtain ⟨rfl, hl⟩ := low len hb
    rw [n2 hhi]
    unfold Instr.sliceBounds
    simp only [Sem.run_bind, Sem.run_pure, Result.andThen_ok]
    cases hlo' : lo' with
    | none =>
      rw [hlo'] at hl
      simp only [Sem.run_pure, Result.ok.injEq, and_true] at hl
      subst hl; rfl
    | some v' =>
      rw [hlo'] at hl
      simp only at hl
      simp only [Option.isSome_none, Bool.false_eq_true, if_false]
      rw [Sem.run_bind, hl]
      rfl
  | some v =>
    rw [hhi] at hb
    obtain ⟨v', e, hv⟩ := h2 v hhi
    cases v with
    | int k i =>
      simp only at hb
      cases hc : (decide (0 ≤ i) && decide (i ≤ (cap : Int))) with
      | false => rw [hc] at hb; cases hb
      | true =>
        rw [hc] at hb
        simp only [cond_true] at hb
        simp only [Bool.and_eq_true, decide_eq_true_eq] at hc
        obtain ⟨rfl, hl⟩ := low i.toNat hb
        rw [e, hv.int_inv]
        unfold Instr.sliceBounds
        simp only [Sem.run_bind, Sem.run_pure, Result.andThen_ok, one i k cap _ hc]
        cases hlo' : lo' with
        | none =>
          rw [hlo'] at hl
          simp only [Sem.run_pure, Result.ok.injEq, and_true] at hl
          subst hl; rfl
        | some v' =>
          rw [hlo'] at hl
          simp only at hl
          simp only [Option.isSome_none, Bool.false_eq_true, if_false]
          rw [Sem.run_bind, hl]
          rfl
    | _ => cases hb

theorem addr_add (b o n : Nat) : (⟨b, o, none⟩ : Addr).add n = ⟨b, o + n, none⟩ := by unfold Addr.add; split <;> simp_all
theorem addr_cond (b o n c l : Nat) : (if c = l then (⟨b, o, none⟩ : Addr) else (⟨b, o, none⟩ : Addr).add n) = ⟨b, bif Nat.beq c l then o else o + n, none⟩ := by
  rw [addr_add]
  cases hc : Nat.beq c l with
  | true => rw [if_pos (Nat.eq_of_beq_eq_true hc)]; rfl
  | false => rw [if_neg (Nat.ne_of_beq_eq_false hc)]; rfl

theorem bounds_le {len cap : Nat} {lo hi : Option Value} {l h : Nat} (e : boundsD len cap lo hi = some (l, h)) : l ≤ h ∧ (h ≤ cap ∨ h ≤ len) := by
  unfold boundsD at e
  split at e
  · cases e
  · rename_i h0 hh
    have k0 : h0 ≤ cap ∨ h0 ≤ len := by
      split at hh
      · cases hh; exact .inr (Nat.le_refl _)
      · rename_i k i
        cases hc : (decide (0 ≤ i) && decide (i ≤ (cap : Int))) with
        | false => rw [hc] at hh; cases hh
        | true =>
          rw [hc] at hh
          simp only [Bool.and_eq_true, decide_eq_true_eq] at hc
          simp only [cond_true, Option.some.injEq] at hh
          omega
      · cases hh
    split at e
    · cases e; exact ⟨Nat.zero_le _, k0⟩
    · rename_i k i
      cases hc : (decide (0 ≤ i) && decide (i ≤ (h0 : Int))) with
      | false => rw [hc] at e; cases e
      | true =>
        rw [hc] at e
        simp only [Bool.and_eq_true, decide_eq_true_eq] at hc
        simp only [cond_true, Option.some.injEq, Prod.mk.injEq] at e
        obtain ⟨e1, e2⟩ := e
        subst e2
        exact ⟨by omega, k0⟩
    · cases e
theorem bounds_cap {len cap : Nat} {lo hi : Option Value} {l h : Nat} (e : boundsD len len lo hi = some (l, h)) (hc : len ≤ cap) : boundsD len cap lo hi = some (l, h) := by
  unfold boundsD at e ⊢
  cases hi with
  | none => exact e
  | some v =>
    cases v with
    | int k i =>
      dsimp only at e ⊢
      cases hb : (decide (0 ≤ i) && decide (i ≤ (len : Int))) with
      | false => rw [hb] at e; cases e
      | true =>
        have hb2 : (decide (0 ≤ i) && decide (i ≤ (cap : Int))) = true := by
          simp only [Bool.and_eq_true, decide_eq_true_eq] at hb ⊢
          omega
        rw [hb] at e
        rw [hb2]
        exact e
    | _ => exact e
theorem bounds_mono {len cap cap' : Nat} {lo hi : Option Value} {p : Nat × Nat} (h : cap ≤ cap') (hb : boundsD len cap lo hi = some p) : boundsD len cap' lo hi = some p := by
  cases hi with
  | none => exact hb
  | some v =>
    cases v with
    | int k i =>
      unfold boundsD at hb ⊢
      simp only at hb ⊢
      cases hc : (decide (0 ≤ i) && decide (i ≤ (cap : Int))) with
      | false => rw [hc] at hb; cases hb
      | true =>
        rw [hc] at hb
        simp only [Bool.and_eq_true, decide_eq_true_eq] at hc
        rw [decide_eq_true hc.1, decide_eq_true (show i ≤ (cap' : Int) by omega)]
        exact hb
    | _ => cases hb
theorem slice_run {t : TypeId} {x v x' : Value} {lo hi lo' hi' : Option Value} (hx : VR μ x x') (h1 : ∀ v, lo = some v → ∃ v', lo' = some v' ∧ VR μ v v') (h2 : ∀ v, hi = some v → ∃ v', hi' = some v' ∧ VR μ v v')
    (n1 : lo = none → lo' = none) (n2 : hi = none → hi' = none) (h : sliceD P t x lo hi = some v) : ∃ v', (Instr.sliceAt t x' lo' hi' none).run P w = .ok v' w ∧ VR μ v v' := by
  unfold sliceD at h
  split at h
  · rename_i n e b o hu
    obtain ⟨b', rfl, hb⟩ := hx.ptr_inv
    cases hbd : boundsD n n lo hi with
    | none => rw [hbd] at h; cases h
    | some p =>
      obtain ⟨l, hh⟩ := p
      rw [hbd] at h
      simp only at h
      cases hf : P.info? e with
      | none => rw [hf] at h; cases h
      | some i =>
        rw [hf] at h
        simp only [Option.some.injEq] at h
        subst h
        refine ⟨.slice (some ⟨b', bif Nat.beq n l then o else o + l * i.size, none⟩) (hh - l) (n - l), ?_, .slice _ _ _ _ _ _ hb (CapR.self _ _ _ _ _)⟩
        unfold Instr.sliceAt
        simp only [Sem.run_bind, run_underlying hu, Result.andThen_ok, Instr.sureAddr, Sem.run_pure, bounds_run h1 h2 n1 n2 hbd, Go.sizeOf, typeInfo, run_program, hf, addr_cond]
  · rename_i e b o len cap hu
    obtain ⟨b', c', rfl, hb, hcr⟩ := hx.slice_inv
    cases hbd : boundsD len cap lo hi with
    | none => rw [hbd] at h; cases h
    | some p =>
      obtain ⟨l, hh⟩ := p
      rw [hbd] at h
      simp only at h
      cases hf : P.info? e with
      | none => rw [hf] at h; cases h
      | some i =>
        rw [hf] at h
        dsimp only at h
        cases hok : okSl cap l i.size with
        | false => rw [hok] at h; cases h
        | true =>
        rw [hok] at h
        simp only [cond_true, Option.some.injEq] at h
        subst h
        have hbd' := bounds_mono hcr.le hbd
        have hoff : (bif Nat.beq cap l then o else o + l * i.size) = (bif Nat.beq c' l then o else o + l * i.size) := by
          rcases hcr with e1 | ⟨h0, h1, _⟩
          · rw [e1]
          · unfold okSl at hok
            simp only [Bool.or_eq_true, Bool.and_eq_true] at hok
            rcases hok with q | ⟨q1, q2⟩
            · have := Nat.eq_of_beq_eq_true q
              subst this
              rw [Nat.zero_mul, Nat.add_zero]
              cases Nat.beq cap 0 <;> cases Nat.beq c' 0 <;> rfl
            · have hne : l < cap := Nat.le_of_ble_eq_true q1
              rw [show Nat.beq cap l = false from by
                cases e : Nat.beq cap l with
                | false => rfl
                | true => have := Nat.eq_of_beq_eq_true e; omega, show Nat.beq c' l = false from by
                cases e : Nat.beq c' l with
                | false => rfl
                | true => have := Nat.eq_of_beq_eq_true e; omega]
        refine ⟨.slice (some ⟨b', bif Nat.beq c' l then o else o + l * i.size, none⟩) (hh - l) (c' - l), ?_, ?_⟩
        · unfold Instr.sliceAt Instr.slice
          simp only [Sem.run_bind, run_underlying hu, Result.andThen_ok, Sem.run_pure, bounds_run h1 h2 n1 n2 hbd', Go.sizeOf, typeInfo, run_program, hf, Option.map_some]
          rw [← addr_cond]
          split <;> rfl
        · rw [← hoff]
          refine .slice _ _ _ _ _ _ hb ?_
          rcases hcr with e1 | ⟨h0, h1, k, s, k1, k2, k3, k4⟩
          · exact .inl (by rw [e1])
          · unfold okSl at hok
            simp only [Bool.or_eq_true, Bool.and_eq_true] at hok
            rcases hok with q | ⟨q1, q2⟩
            · have := Nat.eq_of_beq_eq_true q
              subst this
              have ho : (bif Nat.beq cap 0 then o else o + 0 * i.size) = o := by
                rw [Nat.zero_mul, Nat.add_zero]
                cases Nat.beq cap 0 <;> rfl
              rw [ho, Nat.sub_zero, Nat.sub_zero]
              exact .inr ⟨h0, h1, k, s, k1, k2, k3, k4⟩
            · have hne : l < cap := Nat.le_of_ble_eq_true q1
              have q1 : Nat.beq cap l = false := by
                cases e : Nat.beq cap l with
                | false => rfl
                | true => have := Nat.eq_of_beq_eq_true e; omega
              have q2' : 0 < i.size := Nat.le_of_ble_eq_true q2
              by_cases hl0 : l = 0
              · subst hl0
                rw [q1, cond_false, Nat.zero_mul, Nat.add_zero, Nat.sub_zero, Nat.sub_zero]
                exact .inr ⟨h0, h1, k, s, k1, k2, k3, k4⟩
              · rw [q1, cond_false]
                have hpos : 0 < l * i.size := Nat.mul_pos (by omega) q2'
                refine .inr ⟨by omega, by omega, k + l, s, ?_, by omega, ?_, .inl (by omega)⟩
                · rw [k1]; congr 1; omega
                · rw [k3]; congr 1; omega
  · rename_i e k o z len cap hu
    cases hx with
    | sliceP _ _ _ _ a c' hcc hrel =>
    cases hbd : boundsD len len lo hi with
    | none => rw [hbd] at h; cases h
    | some p =>
      obtain ⟨l, hh⟩ := p
      rw [hbd] at h
      simp only at h
      cases hf : P.info? e with
      | none => rw [hf] at h; cases h
      | some i =>
        rw [hf] at h
        simp only [Option.some.injEq] at h
        subst h
        have hle := bounds_le hbd
        refine ⟨.slice (if c' = l then a else a.map fun x => x.add (l * i.size)) (hh - l) (c' - l), ?_, .sliceP _ _ _ _ _ _ (by omega) fun hlt => ?_⟩
        · unfold Instr.sliceAt Instr.slice
          simp only [Sem.run_bind, run_underlying hu, Result.andThen_ok, Sem.run_pure, bounds_run h1 h2 n1 n2 (bounds_cap hbd hcc), Go.sizeOf, typeInfo, run_program, hf]
        · obtain ⟨b', o', L, C, hr, rfl⟩ := hrel (by omega)
          refine ⟨b', o', L, C, hr, ?_⟩
          rw [if_neg (by omega), Option.map_some, addr_add, Nat.add_assoc]
  · rename_i s hu
    obtain rfl := hx.string_inv
    cases hbd : boundsD s.size s.size lo hi with
    | none => rw [hbd] at h; cases h
    | some p =>
      obtain ⟨l, hh⟩ := p
      rw [hbd] at h
      simp only [Option.some.injEq] at h
      subst h
      refine ⟨_, ?_, .string _⟩
      unfold Instr.sliceAt Instr.slice
      simp only [Sem.run_bind, run_underlying hu, Result.andThen_ok, Sem.run_pure, bounds_run h1 h2 n1 n2 hbd, Option.isSome_none, Bool.false_eq_true, if_false]
  · cases h

theorem len_run {ty rt : TypeId} {tys : Array TypeId} {x v x' : Value} (ht : tys[0]? = some ty) (hx : VR μ x x') (h : lenD P ty x = some v) : ∃ v', (Builtin.len_ tys rt #[x']).run P w = .ok v' w ∧ VR μ v v' := by
  unfold lenD at h
  split at h
  · rename_i s hu
    obtain rfl := hx.string_inv
    cases h
    exact ⟨_, by simp [Builtin.len_, ht, Sem.run_bind, run_underlying hu, goInt], .int _ _⟩
  · rename_i n e hu
    cases h
    exact ⟨_, by cases x' <;> simp [Builtin.len_, ht, Sem.run_bind, run_underlying hu, goInt], .int _ _⟩
  · rename_i e a n c hu
    cases h
    cases hx <;> exact ⟨_, by simp [Builtin.len_, ht, Sem.run_bind, run_underlying hu, goInt], .int _ _⟩
  · cases h

theorem field_run {t : TypeId} {x v x' : Value} {f : Nat} (hx : VR μ x x') (h : fieldD P t x f = some v) : ∃ v', (Instr.field t x' f).run P w = .ok v' w ∧ VR μ v v' := by
  unfold fieldD at h
  split at h
  · rename_i fs cs hu
    obtain ⟨ys, rfl, hys⟩ := hx.agg_inv
    cases hf : fs[f]? with
    | none => rw [hf] at h; cases h
    | some fd =>
      rw [hf] at h
      simp only at h
      obtain ⟨v', hv', hr⟩ := part_run (w := w) hys h
      refine ⟨v', ?_, hr⟩
      unfold Instr.field
      simp only [Sem.run_bind, run_underlying hu, Result.andThen_ok, hf, asAgg, Sem.run_pure, hv']
  · cases h

theorem fieldAddr_run {t : TypeId} {x v x' : Value} {f : Nat} (hx : VR μ x x') (h : fieldAddrD P t x f = some v) : ∃ v', (Instr.fieldAt t x' f).run P w = .ok v' w ∧ VR μ v v' := by
  unfold fieldAddrD at h
  split at h
  · rename_i fs b o hu
    obtain ⟨b', rfl, hb⟩ := hx.ptr_inv
    cases hf : fs[f]? with
    | none => rw [hf] at h; cases h
    | some fd =>
      rw [hf] at h
      simp only at h
      cases hi : P.info? fd.type with
      | none => rw [hi] at h; cases h
      | some i =>
        rw [hi] at h
        simp only at h
        cases hz : Nat.beq i.size 0 with
        | true => rw [hz] at h; cases h
        | false =>
          rw [hz] at h
          simp only [cond_false, Option.some.injEq] at h
          subst h
          refine ⟨.pointer (some ⟨b', o + fd.offset, none⟩), ?_, .ptr _ _ _ hb⟩
          have hne : ¬ i.size = 0 := Nat.ne_of_beq_eq_false hz
          unfold Instr.fieldAt fieldPlace
          simp only [Sem.run_bind, run_underlying hu, Result.andThen_ok, hf, Instr.sureAddr, Sem.run_pure, Go.sizeOf, typeInfo, run_program, hi, if_neg hne, addr_add]
  · rename_i fs kk o z hu
    cases hx with
    | ptrF _ _ l c b' o' hrel =>
    cases hf : fs[f]? with
    | none => rw [hf] at h; cases h
    | some fd =>
      rw [hf] at h
      simp only at h
      cases hi : P.info? fd.type with
      | none => rw [hi] at h; cases h
      | some i =>
        rw [hi] at h
        simp only at h
        cases hz : Nat.beq i.size 0 with
        | true => rw [hz] at h; cases h
        | false =>
          rw [hz] at h
          simp only [cond_false, Option.some.injEq] at h
          subst h
          refine ⟨.pointer (some ⟨b', o' + (o + fd.offset), none⟩), ?_, .ptrF _ _ _ _ _ _ hrel⟩
          have hne : ¬ i.size = 0 := Nat.ne_of_beq_eq_false hz
          rw [← Nat.add_assoc]
          unfold Instr.fieldAt fieldPlace
          simp only [Sem.run_bind, run_underlying hu, Result.andThen_ok, hf, Instr.sureAddr, Sem.run_pure, Go.sizeOf, typeInfo, run_program, hi, if_neg hne, addr_add]
  · cases h

/-! composites -/
theorem foldl_splice : ∀ (vs : List Value) (off k : Nat) (cs : Array Value), off + k + vs.length ≤ cs.size →
    ((vs.zipIdx k).foldl (fun (cs : Array Value) (p : Value × Nat) => cs.setIfInBounds (off + p.2) p.1) cs).toList = cs.toList.take (off + k) ++ vs ++ cs.toList.drop (off + k + vs.length)
  | [], off, k, cs, _ => by simp
  | v :: vs, off, k, cs, h => by
    simp only [List.zipIdx_cons, List.foldl_cons]
    rw [foldl_splice vs off (k + 1) _ (by simp at h ⊢; omega)]
    have hlt : off + k < cs.toList.length := by simp at h ⊢; omega
    rw [Array.toList_setIfInBounds]
    have e1 : (cs.toList.set (off + k) v).take (off + (k + 1)) = cs.toList.take (off + k) ++ [v] := by
      rw [show off + (k + 1) = off + k + 1 by omega, List.take_add_one, List.take_set_of_le (by omega), List.getElem?_set_self hlt]
      rfl
    have e2 : (cs.toList.set (off + k) v).drop (off + (k + 1) + vs.length) = cs.toList.drop (off + k + (vs.length + 1)) := by
      rw [List.drop_set_of_lt (by omega)]
      congr 1
      omega
    rw [e1, e2]
    simp

def PartsR (μ : Mu) (ps ps' : List (Nat × Value)) : Prop := ps.map (·.1) = ps'.map (·.1) ∧ VRL μ (ps.map (·.2)) (ps'.map (·.2))

theorem fill_run (place : Nat → Option (Nat × Nat)) : ∀ (ps ps' : List (Nat × Value)) (cells out : List Value) (cells' : Array Value), PartsR μ ps ps' → VRL μ cells cells'.toList → fillD place cells ps = some out →
    ∃ out' : Array Value, Instr.fill place cells' ps' = some out' ∧ VRL μ out out'.toList
  | [], ps', cells, out, cells', hp, hc, h => by
    have : ps' = [] := by have := hp.1; cases ps' <;> simp_all
    subst this
    cases h
    exact ⟨cells', rfl, hc⟩
  | (i, v) :: ps, [], cells, out, cells', hp, hc, h => by have := hp.1; simp at this
  | (i, v) :: ps, (i', v') :: ps', cells, out, cells', hp, hc, h => by
    have hi : i = i' := by have := hp.1; simp at this; exact this.1
    subst hi
    have hv : VR μ v v' := hp.2.head
    have hp' : PartsR μ ps ps' := ⟨by have := hp.1; simp at this; simpa using this, hp.2.tail⟩
    simp only [fillD] at h
    simp only [Instr.fill]
    cases hpl : place i with
    | none => rw [hpl] at h; cases h
    | some p =>
      obtain ⟨off, size⟩ := p
      rw [hpl] at h
      simp only at h ⊢
      cases hcnd : (Nat.beq v.cells.toList.length size && Nat.ble (off + v.cells.toList.length) cells.length) with
      | false => rw [hcnd] at h; cases h
      | true =>
        rw [hcnd] at h
        simp only [cond_true] at h
        simp only [Bool.and_eq_true] at hcnd
        have c1 := Nat.eq_of_beq_eq_true hcnd.1
        have c2 := Nat.le_of_ble_eq_true hcnd.2
        have hvc := hv.cells
        have l1 := hvc.1
        have l2 := hc.1
        have hs : v'.cells.size = size := by simp at l1 c1; omega
        have hle : off + v'.cells.size ≤ cells'.size := by simp at l1 l2 c2; omega
        rw [if_neg (by simp [hs]; omega)]
        refine fill_run place ps ps' _ out _ hp' ?_ h
        have := foldl_splice v'.cells.toList off 0 cells' (by simp; omega)
        simp only [Nat.add_zero] at this
        have e : (Array.foldl (fun (cs : Array Value) (x : Value × Nat) => cs.setIfInBounds (off + x.2) x.1) cells' v'.cells.zipIdx).toList = cells'.toList.take off ++ v'.cells.toList ++ cells'.toList.drop (off + v'.cells.toList.length) := by
          rw [← this, ← Array.foldl_toList]
          simp
        rw [show (Array.foldl (fun (cs : Array Value) (x : Value × Nat) => match x with | (c, j) => cs.setIfInBounds (off + j) c) cells' v'.cells.zipIdx).toList = _ from e]
        unfold setRow
        rw [← l1]
        exact ((hc.take off).append hvc).append (hc.drop _)

theorem places_run : ∀ (fs : List Field) (pl : List (Nat × Nat)), placesD P fs = some pl → (fs.mapM (m := Sem) fun f => do pure (f.offset, ← Go.sizeOf f.type)).run P w = .ok pl w
  | [], pl, h => by cases h; rfl
  | f :: fs, pl, h => by
    simp only [placesD] at h
    cases hi : P.info? f.type with
    | none => rw [hi] at h; cases h
    | some i =>
      rw [hi] at h
      simp only at h
      cases hp : placesD P fs with
      | none => rw [hp] at h; cases h
      | some l =>
        rw [hp] at h
        simp only [Option.some.injEq] at h
        subst h
        rw [List.mapM_cons, Sem.run_bind, Sem.run_bind]
        simp only [Go.sizeOf, typeInfo, Sem.run_bind, run_program, Result.andThen_ok, hi, Sem.run_pure]
        have := places_run fs l hp
        simp only [Go.sizeOf, typeInfo] at this
        rw [this]
        rfl

theorem build_run {t : TypeId} {ps : List (Nat × Value)} {ps' : Array (Nat × Value)} {v : Value} (hp : PartsR μ ps ps'.toList) (h : buildD P t ps = some v) : ∃ v', (Instr.build t ps').run P w = .ok v' w ∧ VR μ v v' := by
  unfold buildD at h
  cases hinf : P.info? t with
  | none => rw [hinf] at h; cases h
  | some inf =>
    rw [hinf] at h
    simp only at h
    cases hz : inf.zero with
    | none => rw [hz] at h; cases h
    | some z =>
      rw [hz] at h
      simp only at h
      cases hc : z.cells.toList.all canonB with
      | false => rw [hc] at h; cases h
      | true =>
        rw [hc] at h
        simp only [cond_true] at h
        split at h
        · rename_i fs hu
          cases hpl : placesD P fs.toList with
          | none => rw [hpl] at h; cases h
          | some pl =>
            rw [hpl] at h
            simp only at h
            obtain ⟨out, ho, rfl⟩ := Option.map_eq_some_iff.1 h
            obtain ⟨out', h1, h2⟩ := fill_run (fun i => pl[i]?) ps ps'.toList z.cells.toList out z.cells hp (canonL_VRL hc) ho
            refine ⟨.agg out', ?_, .agg _ _ (by simpa using h2.1) (by simpa using h2.2)⟩
            unfold Instr.build
            have hpr := places_run (w := w) fs.toList pl hpl
            simp only [Sem.run_bind, zeroValue, typeInfo, run_program, Result.andThen_ok, hinf, Sem.run_pure, hz, run_underlying hu, Array.mapM_eq_mapM_toList, Sem.run_map]
            simp only [Go.sizeOf, typeInfo] at hpr
            simp only [Go.sizeOf, typeInfo, hpr, Result.andThen_ok]
            have : Instr.fill (fun x => pl.toArray[x]?) z.cells ps'.toList = some out' := by simpa using h1
            rw [this]
            rfl
        · rename_i n e hu
          cases hi : P.info? e with
          | none => rw [hi] at h; cases h
          | some i =>
            rw [hi] at h
            simp only at h
            obtain ⟨out, ho, rfl⟩ := Option.map_eq_some_iff.1 h
            obtain ⟨out', h1, h2⟩ := fill_run (fun j => some (j * i.size, i.size)) ps ps'.toList z.cells.toList out z.cells hp (canonL_VRL hc) ho
            refine ⟨.agg out', ?_, .agg _ _ (by simpa using h2.1) (by simpa using h2.2)⟩
            unfold Instr.build
            simp only [Sem.run_bind, zeroValue, typeInfo, run_program, Result.andThen_ok, hinf, Sem.run_pure, hz, run_underlying hu, Go.sizeOf, hi, h1]
        · cases h

theorem row_run {t : TypeId} {len : Nat} {ps : List (Nat × Value)} {ps' : Array (Nat × Value)} {cs : List Value} (hp : PartsR μ ps ps'.toList) (h : rowD P t len ps = some cs) :
    ∃ (cs' : Array Value) (T : TypeId), (Instr.buildSlice t len ps').run P w = .ok (.slice (some ⟨w.heap.size, 0, none⟩) len len) (w.alloc (.cells cs' T)) ∧ VRL μ cs cs'.toList := by
  unfold rowD at h
  split at h
  case h_2 => cases h
  rename_i e hu
  cases hi : P.info? e with
  | none => rw [hi] at h; cases h
  | some i =>
    rw [hi] at h
    simp only at h
    cases hle : Nat.ble (len * i.size) 16777216 with
    | false => rw [hle] at h; cases h
    | true =>
      rw [hle] at h
      simp only [cond_true] at h
      have hle' : ¬ len * i.size > 2 ^ 24 := by have := Nat.le_of_ble_eq_true hle; omega
      cases hz0 : Nat.beq (len * i.size) 0 with
      | true =>
        rw [hz0] at h
        simp only [cond_true] at h
        have e0 := Nat.eq_of_beq_eq_true hz0
        obtain ⟨out', h1, h2⟩ := fill_run (fun j => some (j * i.size, i.size)) ps ps'.toList [] cs #[] hp VRL.nil h
        refine ⟨out', e, ?_, h2⟩
        unfold Instr.buildSlice
        simp only [Sem.run_bind, run_underlying hu, Result.andThen_ok, Go.sizeOf, typeInfo, run_program, hi, Sem.run_pure, if_neg hle', if_pos e0]
        rw [show Array.map (fun x => (#[] : Array Value)[x % (#[] : Array Value).size]!) (Array.range (len * i.size)) = #[] by rw [e0]; simp, h1]
        rfl
      | false =>
        rw [hz0] at h
        simp only [cond_false] at h
        have e0 : ¬ len * i.size = 0 := Nat.ne_of_beq_eq_false hz0
        cases hz : i.zero with
        | none => rw [hz] at h; cases h
        | some z =>
          rw [hz] at h
          simp only at h
          cases hc : (z.cells.toList.all canonB && Nat.beq z.cells.size i.size && Nat.blt 0 z.cells.size) with
          | false => rw [hc] at h; cases h
          | true =>
            rw [hc] at h
            simp only [cond_true] at h
            simp only [Bool.and_eq_true] at hc
            have hpos : 0 < z.cells.size := Nat.le_of_ble_eq_true hc.2
            have hzr : VRL μ ((List.range (len * i.size)).map fun k => z.cells[k % z.cells.size]!) (Array.map (fun x => z.cells[x % z.cells.size]!) (Array.range (len * i.size))).toList := by
              rw [Array.toList_map, Array.toList_range]
              refine canonL_VRL (List.all_eq_true.2 fun x hx => ?_)
              obtain ⟨k, _, rfl⟩ := List.mem_map.1 hx
              have hk : k % z.cells.size < z.cells.size := Nat.mod_lt _ hpos
              rw [getElem!_pos z.cells _ hk]
              exact List.all_eq_true.1 hc.1.1 _ (by simp)
            obtain ⟨out', h1, h2⟩ := fill_run (fun j => some (j * i.size, i.size)) ps ps'.toList _ cs _ hp hzr h
            refine ⟨out', e, ?_, h2⟩
            unfold Instr.buildSlice
            simp only [Sem.run_bind, run_underlying hu, Result.andThen_ok, Go.sizeOf, typeInfo, run_program, hi, Sem.run_pure, if_neg hle', if_neg e0, zeroValue, hz, h1]
            rfl

theorem make_run {t : TypeId} {l c l' c' : Value} {n : Nat} {cs : List Value} (hl : VR μ l l') (hc : VR μ c c') (h : makeD P t l c = some (n, cs)) :
    ∃ (cs' : Array Value) (T : TypeId), (Instr.makeSlice t l' c').run P w = .ok (.slice (some ⟨w.heap.size, 0, none⟩) n n) (w.alloc (.cells cs' T)) ∧ VRL μ cs cs'.toList := by
  unfold makeD at h
  split at h
  case h_2 => cases h
  rename_i kl n' kc m
  obtain rfl := hl.int_inv
  obtain rfl := hc.int_inv
  split at h
  case h_2 => cases h
  rename_i e hu
  cases hi : P.info? e with
  | none => rw [hi] at h; cases h
  | some i =>
    rw [hi] at h
    simp only at h
    cases hz : i.zero with
    | none => rw [hz] at h; cases h
    | some z =>
      rw [hz] at h
      simp only at h
      cases hcnd : (Nat.beq n' m && Nat.ble (i.bytes * n') 281474976710656 && Nat.ble n' 9223372036854775807 && z.cells.toList.all canonB && Nat.blt 0 z.cells.size) with
      | false => rw [hcnd] at h; cases h
      | true =>
        rw [hcnd] at h
        simp only [cond_true, Option.some.injEq, Prod.mk.injEq] at h
        obtain ⟨rfl, rfl⟩ := h
        simp only [Bool.and_eq_true] at hcnd
        obtain ⟨⟨⟨⟨c1, c2⟩, c3⟩, c4⟩, c5⟩ := hcnd
        have c1' := Nat.eq_of_beq_eq_true c1
        subst c1'
        have c2' := Nat.le_of_ble_eq_true c2
        have c3' := Nat.le_of_ble_eq_true c3
        have hpos : 0 < z.cells.size := Nat.le_of_ble_eq_true c5
        have hb' : (i.bytes : Int) * ((n' : Nat) : Int) ≤ 281474976710656 := by
          have h : ((i.bytes * n' : Nat) : Int) ≤ 281474976710656 := by omega
          rwa [Int.natCast_mul] at h
        refine ⟨madeCells z.cells (n' * i.size), e, ?_, ?_⟩
        · have := run_make (P := P) w t e i z hu hi hz kl kc (n' : Nat) (n' : Nat) (by omega) (Int.le_refl _) hb' (by omega)
          simpa using this
        · unfold madeCells
          rw [Array.toList_map, Array.toList_range]
          refine canonL_VRL (List.all_eq_true.2 fun x hx => ?_)
          obtain ⟨k, _, rfl⟩ := List.mem_map.1 hx
          have hk : k % z.cells.size < z.cells.size := Nat.mod_lt _ hpos
          rw [getElem!_pos z.cells _ hk]
          exact List.all_eq_true.1 c4 _ (by simp)

/-! ### the lesser, the greater -/
theorem nanMM_cut (k : FloatKind) (m : Bool) (x y t : Nat) : isN k ((Question.nanMinMax k m x y).cut t) = true := by
  cases k
  · exact nanCut32 t
  · exact nanCut64 t
theorem order_some {k : FloatKind} {x y : Nat} {o : Ordering} (h : k.format.order x y = some o) : isN k x = false := by
  cases hn : isN k x with
  | false => rfl
  | true =>
    exfalso
    unfold Ieee.Format.order at h
    obtain ⟨s, t, e⟩ := read_N hn
    rw [e] at h
    cases h
theorem mm_run {up : Bool} {t : Array TypeId} {rt : TypeId} {a b v a' b' : Value} (ha : VR μ a a') (hb : VR μ b b') (h : mmD up a b = some v) :
    ∃ v', ((bif up then Builtin.max_ t rt #[a', b'] else Builtin.min_ t rt #[a', b']).run P w = .ok v' w ∨ (bif up then Builtin.max_ t rt #[a', b'] else Builtin.min_ t rt #[a', b']).run P w = .ok v' { w with drawn := w.drawn + 1 }) ∧ VR μ v v' := by
  have e1 : ∀ x y : Value, (Builtin.max_ t rt #[x, y]).run P w = (Builtin.max2 x y).run P w := fun x y => by
    simp [Builtin.max_, List.foldlM]
  have e2 : ∀ x y : Value, (Builtin.min_ t rt #[x, y]).run P w = (Builtin.min2 x y).run P w := fun x y => by
    simp [Builtin.min_, List.foldlM]
  unfold mmD at h
  split at h
  · rename_i k x k' y
    cases hk : sameK k k' with
    | false => rw [hk] at h; cases h
    | true =>
      rw [hk, cond_true] at h
      obtain rfl := sameK_eq hk
      cases h
      obtain ⟨x', rfl, rfl⟩ := ha.float_inv
      obtain ⟨y', rfl, rfl⟩ := hb.float_inv
      cases up with
      | true =>
        simp only [cond_true, e1]
        unfold fmax
        rw [order_cn]
        cases ho : k.format.order x' y' with
        | none => exact ⟨_, .inr (by simp only [Builtin.max2, ho]; simp [Question.forced]; rfl), .float _ _ _ (by rw [cn_of_N (nanMM_cut ..)])⟩
        | some o =>
          cases o with
          | lt => exact ⟨_, .inl (by simp only [Builtin.max2, ho]; rfl), .float _ _ _ rfl⟩
          | gt => exact ⟨_, .inl (by simp only [Builtin.max2, ho]; rfl), .float _ _ _ rfl⟩
          | eq =>
            refine ⟨_, .inl (by simp only [Builtin.max2, ho]; rfl), .float _ _ _ ?_⟩
            rw [cn_of_not (order_some ho)]
            dsimp only
            split
            · rfl
            · exact (cn_of_not (order_some ho)).symm
      | false =>
        simp only [cond_false, e2]
        unfold fmin
        rw [order_cn]
        cases ho : k.format.order x' y' with
        | none => exact ⟨_, .inr (by simp only [Builtin.min2, ho]; simp [Question.forced]; rfl), .float _ _ _ (by rw [cn_of_N (nanMM_cut ..)])⟩
        | some o =>
          cases o with
          | lt => exact ⟨_, .inl (by simp only [Builtin.min2, ho]; rfl), .float _ _ _ rfl⟩
          | gt => exact ⟨_, .inl (by simp only [Builtin.min2, ho]; rfl), .float _ _ _ rfl⟩
          | eq =>
            refine ⟨_, .inl (by simp only [Builtin.min2, ho]; rfl), .float _ _ _ ?_⟩
            rw [cn_of_not (order_some ho)]
            dsimp only
            split
            · exact (cn_of_not (order_some ho)).symm
            · rfl
  · rename_i k x k' y
    cases h
    obtain rfl := ha.int_inv
    obtain rfl := hb.int_inv
    cases up with
    | true =>
      simp only [cond_true, e1]
      exact ⟨_, .inl rfl, .int _ _⟩
    | false =>
      simp only [cond_false, e2]
      exact ⟨_, .inl rfl, .int _ _⟩
  · cases h
end
end Ev
namespace Ev
noncomputable section
open Go Go.RowKit
variable [Frn]
/-! ### append -/
theorem app_room {P : Program} (w : World) (t ty e : TypeId) (i : TypeInfo) (ht : P.underlying t = some (.slice e)) (hi : P.info? e = some i) {g l cap : Nat} {cur : Array Value} {T : TypeId} (hg : w.heap[g]? = some (.cells cur T (0, 0)))
    (a : Addr) (m c : Nat) (ys : List Value) (hl : ys.length = m * i.size) (hys : ∀ j u, ys[j]? = some u → w.cell? (a.add j) = some u) (h1 : ∀ u ∈ ys, u.oneCell' = true) (hr : l + m ≤ cap) (hf : l * i.size + ys.length ≤ cur.size) :
    (Builtin.append_ #[t, t] ty #[.slice (some ⟨g, 0, none⟩) l cap, .slice (some a) m c]).run P w = .ok (.slice (some ⟨g, 0, none⟩) (l + m) cap) (w.setRow g (cur.toList.take (l * i.size) ++ ys ++ cur.toList.drop (l * i.size + ys.length)).toArray) := by
  have k1 := run_firstCells_some (P := P) w i.size m a m c ys hl hys
  have k2 := run_storeCells_at P g (l * i.size) T ys 0 cur w hg (by simpa using hf) h1
  rw [Nat.add_zero] at k2
  simp [Builtin.append_, run_underlying ht, Go.sizeOf, typeInfo, hi, Builtin.lenOf, hr, k1, Addr.add_lit, k2]
theorem frn_row {μ : Mu} {h : Heap} {w : World} {B : Nat} (hh : HeapR μ h w B) {k l c b o : Nat} (hrel : Frn.rel k (.slice (some ⟨b, o, none⟩) l c)) : ∀ n, n ≤ (Frn.row k).length → ∃ ys : List Value, ys.length = n ∧ (∀ (j : Nat) y, ys[j]? = some y → w.cell? ⟨b, o + j, none⟩ = some y) ∧ VRL μ ((Frn.row k).take n) ys := by
  intro n
  induction n with
  | zero => exact fun _ => ⟨[], rfl, fun j y hj => by simp at hj, by rw [List.take_zero]; exact VRL.nil⟩
  | succ n ih =>
    intro hn
    obtain ⟨ys, h1, h2, h3⟩ := ih (by omega)
    have hlt : n < (Frn.row k).length := by omega
    obtain ⟨b1, o1, u', e1, e2, e3⟩ := Frn.cell hh.inv hrel n _ (List.getElem?_eq_getElem hlt)
    cases e1
    have key : ∀ {u : Value}, CanT Frn.rel u u' → VR μ u u' := fun e => by
      cases e with
      | can _ _ h => cases h <;> constructor <;> assumption
      | tok _ _ _ _ _ h => exact .sliceF _ _ _ _ _ h
    have g2 : VR μ (Frn.row k)[n] u' := key e3
    refine ⟨ys ++ [u'], by simp [h1], fun j y hj => ?_, ?_⟩
    · by_cases hjn : j < n
      · rw [List.getElem?_append_left (by omega)] at hj
        exact h2 j y hj
      · rw [List.getElem?_append_right (by omega)] at hj
        have hj0 : j - ys.length = 0 := by
          have := (List.getElem?_eq_some_iff.1 hj).1
          simp at this; omega
        have hjn' : j = n := by omega
        rw [hj0] at hj
        cases hj
        rw [hjn']
        exact e2
    · rw [List.take_succ_eq_append_getElem (by omega)]
      exact h3.append (VRL.cons g2 VRL.nil)
/-- what is appended, as it lies in memory -/
theorem parts_app {μ : Mu} {h : Heap} {w : World} {B : Nat} (hh : HeapR μ h w B) {size m : Nat} {x x' : Value} {news : List Value} (hx : VR μ x x') (hp : partsF h size x = some (m, news, true)) (hm : 0 < m) (hs : news.all scalarB = true) :
    ∃ a c ys, x' = .slice (some a) m c ∧ ys.length = m * size ∧ (∀ (j : Nat) u, ys[j]? = some u → w.cell? (a.add j) = some u) ∧ VRL μ news ys ∧ ∀ u ∈ ys, u.oneCell' = true := by
  have one : ∀ {ys : List Value}, VRL μ news ys → ∀ u ∈ ys, u.oneCell' = true := fun {ys} hv u hu => by
    obtain ⟨j, hj⟩ := List.mem_iff_getElem?.1 hu
    have hjl : j < news.length := by rw [hv.1]; exact (List.getElem?_eq_some_iff.1 hj).1
    exact scalarB_one (hv.2 j _ u (List.getElem?_eq_getElem hjl) hj) (List.all_eq_true.1 hs _ (List.getElem_mem hjl))
  unfold partsF at hp
  split at hp
  · rename_i b o m' c0
    split at hp
    · rename_i cs hr
      simp only [Option.some.injEq, Prod.mk.injEq] at hp
      obtain ⟨rfl, rfl, hk⟩ := hp
      have hk := Nat.le_of_ble_eq_true hk
      obtain ⟨b', c', rfl, hb, _⟩ := hx.slice_inv
      obtain ⟨b2, cs', T, g1, g2, g3, g4⟩ := hh.dom b cs hr
      rw [hb] at g1; cases g1
      have hlen := row_len g4
      have g5 := (g4.drop o).take (m' * size)
      rw [part_take hk] at g5
      refine ⟨⟨b', o, none⟩, c', _, rfl, ?_, fun j u hj => ?_, g5, one g5⟩
      · rw [List.length_take, List.length_drop]; omega
      · have hadd : (⟨b', o, none⟩ : Addr).add j = ⟨b', o + j, none⟩ := by unfold Addr.add; split <;> simp_all
        rw [hadd, cell_of_row w b' (o + j) cs' T _ g3]
        rw [List.getElem?_take] at hj
        split at hj
        · rw [List.getElem?_drop] at hj; simpa using hj
        · cases hj
    · cases hp
  · rename_i k m' c0
    simp only [Option.some.injEq, Prod.mk.injEq] at hp
    obtain ⟨rfl, rfl, hk⟩ := hp
    have hk := Nat.le_of_ble_eq_true hk
    cases hx with
    | sliceF _ _ _ a c' hrel =>
      obtain ⟨b, o, rfl⟩ := Frn.addr hrel hm
      obtain ⟨ys, y1, y2, y3⟩ := frn_row hh hrel _ hk
      refine ⟨_, c', ys, rfl, y1, fun j u hj => ?_, y3, one y3⟩
      have hadd : (⟨b, o, none⟩ : Addr).add j = ⟨b, o + j, none⟩ := by unfold Addr.add; split <;> simp_all
      rw [hadd]
      exact y2 j u hj
  · cases hp
theorem push_other {h : Heap} {row : Option (List Value)} {c : Nat} (hc : c ≠ h.length) : (h ++ [row]).getD c none = h.getD c none := by
  rw [List.getD_eq_getElem?_getD, List.getD_eq_getElem?_getD]
  rcases Nat.lt_or_ge c h.length with hlt | hge
  · rw [List.getElem?_append_left hlt]
  · rw [List.getElem?_append_right hge, List.getElem?_eq_none (l := h) hge, List.getElem?_eq_none (by simp; omega)]
theorem push_self {h : Heap} {row : List Value} : (h ++ [some row]).getD h.length none = some row := by
  rw [List.getD_eq_getElem?_getD, List.getElem?_append_right (Nat.le_refl _), Nat.sub_self]; rfl
theorem getD_len {h : Heap} : h.getD h.length none = none := by rw [List.getD_eq_getElem?_getD, List.getElem?_eq_none (Nat.le_refl _)]; rfl
/-- a new block behind all others -/
theorem HeapR.push {μ : Mu} {h : Heap} {w : World} {B : Nat} (hh : HeapR μ h w B) (hB : B ≤ w.heap.size) {cs : List Value} {cs' : Array Value} (T : TypeId) (hc : VRL μ cs (cs'.toList.take cs.length)) :
    HeapR (upd μ h.length w.heap.size cs.length cs'.size) (h ++ [some cs]) (w.alloc (.cells cs' T)) B := by
  have hs : Sub μ (upd μ h.length w.heap.size cs.length cs'.size) := hh.new_sub (hh.non _ getD_len)
  refine ⟨fun b ds e => ?_, fun b ds b' ds' T' e e1 e2 => ?_, hh.base, Frn.keep hh.base ((Below.refl B w).alloc hB _) hh.inv, fun b e => ?_, fun b1 b2 x d1 d2 e1 e2 => ?_⟩
  · by_cases hb : b = h.length
    · subst hb
      rw [push_self] at e
      cases e
      exact ⟨w.heap.size, cs', T, upd_self, hB, heap_alloc_new w _, hc.mono hs⟩
    · rw [push_other hb] at e
      obtain ⟨b', ds', T', g1, g2, g3, g4⟩ := hh.dom b ds e
      refine ⟨b', ds', T', (hs _ _ g1).1, g2, ?_, g4.mono hs⟩
      rw [Below.heap_alloc _ _ _ (hh.lt g1)]
      exact g3
  · by_cases hb : b = h.length
    · subst hb
      rw [push_self] at e
      cases e
      rw [upd_self] at e1
      cases e1
      rw [heap_alloc_new] at e2
      cases e2
      refine ⟨?_, .inr ?_⟩
      · show _ = (if w.heap.size = w.heap.size then _ else _)
        rw [if_pos rfl]
      · show _ = (if h.length = h.length then _ else _)
        rw [if_pos rfl]
    · rw [push_other hb] at e
      rw [upd_f, if_neg hb] at e1
      rw [Below.heap_alloc _ _ _ (hh.lt e1)] at e2
      obtain ⟨_, q2, q3⟩ := hs _ _ e1
      rw [q2, q3]
      exact hh.size b ds b' ds' T' e e1 e2
  · by_cases hb : b = h.length
    · subst hb; rw [push_self] at e; cases e
    · rw [push_other hb] at e
      rw [upd_f, if_neg hb]
      exact hh.non b e
  · rw [upd_f] at e1 e2
    split at e1
    · split at e2
      · rename_i a b; rw [a, b]
      · cases e1; exact absurd (hh.lt e2) (Nat.lt_irrefl _)
    · split at e2
      · cases e2; exact absurd (hh.lt e1) (Nat.lt_irrefl _)
      · rename_i n1 n2
        rw [push_other n1] at d1
        rw [push_other n2] at d2
        exact hh.inj b1 b2 x d1 d2 e1 e2
theorem kill_self {h : Heap} {b : Nat} {cs : List Value} (hr : h.getD b none = some cs) : (h.set b (some [])).getD b none = some [] := getD_set_self (lt_of_getD hr) _
/-- a block dies -/
theorem HeapR.kill {μ : Mu} {h : Heap} {w : World} {B : Nat} (hh : HeapR μ h w B) {b : Nat} {cs : List Value} (hr : h.getD b none = some cs) : HeapR μ (h.set b (some [])) w B := by
  refine ⟨fun c ds e => ?_, fun c ds c' ds' T e e1 e2 => ?_, hh.base, hh.inv, fun c e => ?_, fun b1 b2 x d1 d2 e1 e2 => ?_⟩
  · by_cases hb : b = c
    · subst hb
      rw [kill_self hr] at e
      cases e
      obtain ⟨b', cs', T, g1, g2, g3, _⟩ := hh.dom b cs hr
      exact ⟨b', cs', T, g1, g2, g3, VRL.nil⟩
    · rw [getD_set_other hb] at e
      exact hh.dom c ds e
  · by_cases hb : b = c
    · subst hb
      rw [kill_self hr] at e
      cases e
      exact ⟨(hh.size b cs c' ds' T hr e1 e2).1, .inl rfl⟩
    · rw [getD_set_other hb] at e
      exact hh.size c ds c' ds' T e e1 e2
  · by_cases hb : b = c
    · subst hb; rw [kill_self hr] at e; cases e
    · rw [getD_set_other hb] at e; exact hh.non c e
  · by_cases hb1 : b = b1
    · subst hb1; exact absurd (kill_self hr) d1
    · by_cases hb2 : b = b2
      · subst hb2; exact absurd (kill_self hr) d2
      · rw [getD_set_other hb1] at d1
        rw [getD_set_other hb2] at d2
        exact hh.inj b1 b2 x d1 d2 e1 e2
/-- a row that has room grows where it lies: the old block dies, the new one lies there too -/
theorem HeapR.grow {μ : Mu} {h : Heap} {w : World} {B : Nat} (hh : HeapR μ h w B) {b b' : Nat} {cs new : List Value} {cs' new' : Array Value} {T : TypeId} (hr : h.getD b none = some cs) (h0 : cs ≠ []) (hb : μ b = some b') (h3 : w.heap[b']? = some (.cells cs' T (0, 0)))
    (hsz : new'.size = cs'.size) (hn : VRL μ new (new'.toList.take new.length)) : HeapR (upd μ h.length b' new.length (μ.sz b')) (h.set b (some []) ++ [some new]) (w.setRow b' new') B := by
  have hs : Sub μ (upd μ h.length b' new.length (μ.sz b')) := sub_upd (hh.non _ getD_len) fun _ _ => rfl
  have hlen : (h.set b (some [])).length = h.length := List.length_set
  have hps : (h.set b (some []) ++ [some new]).getD h.length none = some new := by rw [← hlen]; exact push_self
  have hpo : ∀ {c}, c ≠ h.length → (h.set b (some []) ++ [some new]).getD c none = (h.set b (some [])).getD c none := fun hc => push_other (by rw [hlen]; exact hc)
  have hk := hh.kill hr
  obtain ⟨b0, _, _, z1, z2, _, _⟩ := hh.dom b cs hr
  rw [hb] at z1; cases z1
  have hrow : (w.setRow b' new').heap[b']? = some (.cells new' T (0, 0)) := setRow_heap w b' cs' new' T _ h3
  have hsb : μ.sz b' = cs'.size := (hh.size b cs b' cs' T hr hb h3).1.symm
  have key : ∀ c, (h.set b (some [])).getD c none ≠ some [] → μ c ≠ some b' := fun c hd e => by
    by_cases hbc : b = c
    · subst hbc; exact hd (kill_self hr)
    · refine hbc (hh.inj b c b' ?_ ?_ hb e)
      · rw [hr]; intro q; cases q; exact h0 rfl
      · rw [getD_set_other hbc] at hd; exact hd
  refine ⟨fun c ds e => ?_, fun c ds c' ds' T' e e1 e2 => ?_, hh.base, Frn.keep hh.base (below_setRow z2 _) hh.inv, fun c e => ?_, fun b1 b2 x d1 d2 e1 e2 => ?_⟩
  · by_cases hc : c = h.length
    · subst hc
      rw [hps] at e
      cases e
      exact ⟨b', new', T, upd_self, z2, hrow, hn.mono hs⟩
    · rw [hpo hc] at e
      obtain ⟨c', ds', T', g1, g2, g3, g4⟩ := hk.dom c ds e
      by_cases hcb : c' = b'
      · subst hcb
        by_cases hd : ds = []
        · subst hd
          exact ⟨c', new', T, (hs _ _ g1).1, g2, hrow, VRL.nil⟩
        · exact absurd g1 (key c (by rw [e]; intro q; cases q; exact hd rfl))
      · refine ⟨c', ds', T', (hs _ _ g1).1, g2, ?_, g4.mono hs⟩
        rw [setRow_other w b' c' new' hcb]
        exact g3
  · by_cases hc : c = h.length
    · subst hc
      rw [hps] at e
      cases e
      rw [upd_self] at e1
      cases e1
      rw [hrow] at e2
      cases e2
      refine ⟨?_, .inr ?_⟩
      · show _ = (if b' = b' then μ.sz b' else _)
        rw [if_pos rfl, hsb, hsz]
      · show _ = (if h.length = h.length then _ else _)
        rw [if_pos rfl]
    · rw [hpo hc] at e
      rw [upd_f, if_neg hc] at e1
      obtain ⟨_, q2, q3⟩ := hs _ _ e1
      rw [q2, q3]
      by_cases hcb : c' = b'
      · subst hcb
        rw [hrow] at e2
        cases e2
        obtain ⟨p1, p2⟩ := hk.size c ds c' cs' T e e1 h3
        exact ⟨by rw [hsz]; exact p1, p2⟩
      · rw [setRow_other w b' c' new' hcb] at e2
        exact hk.size c ds c' ds' T' e e1 e2
  · by_cases hc : c = h.length
    · subst hc; rw [hps] at e; cases e
    · rw [hpo hc] at e
      rw [upd_f, if_neg hc]
      exact hk.non c e
  · rw [upd_f] at e1 e2
    split at e1
    · split at e2
      · rename_i a b; rw [a, b]
      · rename_i n2
        cases e1
        rw [hpo n2] at d2
        exact absurd e2 (key _ d2)
    · split at e2
      · rename_i n1 _
        cases e2
        rw [hpo n1] at d1
        exact absurd e1 (key _ d1)
      · rename_i n1 n2
        rw [hpo n1] at d1
        rw [hpo n2] at d2
        exact hk.inj b1 b2 x d1 d2 e1 e2
theorem grown_row {z : Array Value} {i : TypeInfo} {olds ys : List Value} {n m cap : Nat} (h1 : olds.length = n * i.size) (h2 : ys.length = m * i.size) (hz : z.size = i.size) (hc : n + m ≤ cap) :
    (olds.toArray ++ ys.toArray ++ Builtin.zeroCells z (cap - (n + m))).size = cap * i.size := by
  simp only [Array.size_append, List.size_toArray, size_zeroCells, h1, h2, hz, ← Nat.add_mul]
  congr 1
  omega
/-- append, as it runs -/
theorem app_run {P : Program} {μ : Mu} {h : Heap} {w : World} {B : Nat} (hh : HeapR μ h w B) (hB : B ≤ w.heap.size) {t ty : TypeId} {s x s' x' v : Value} {kill : Option Nat} {row : List Value} (hs : VR μ s s') (hx : VR μ x x') (ha : appF P h t s x = some (v, kill, row, true)) :
    ∃ v' w' μ', (Builtin.append_ #[t, t] ty #[s', x']).run P w = .ok v' w' ∧ Sub μ μ' ∧ VR μ' v v' ∧ HeapR μ' (killH h kill ++ [some row]) w' B ∧ Below B w w' := by
  unfold appF at ha
  split at ha
  case h_2 => cases ha
  rename_i e ht
  cases hi : P.info? e with
  | none => rw [hi] at ha; cases ha
  | some i =>
  rw [hi] at ha
  dsimp only at ha
  cases hz : i.zero with
  | none => rw [hz] at ha; cases ha
  | some z =>
  rw [hz] at ha
  dsimp only at ha
  cases hp : partsF h i.size x with
  | none => rw [hp] at ha; cases ha
  | some q =>
  obtain ⟨m, news, k⟩ := q
  rw [hp] at ha
  dsimp only at ha
  have facts : ∀ {n}, appOk i z n m news = true → k = true → 0 < m ∧ 0 < i.size ∧ z.cells.size = i.size ∧ (n + m) * i.bytes ≤ 140737488355328 ∧ n + m ≤ maxLen ∧ ∃ a c ys, x' = .slice (some a) m c ∧ ys.length = m * i.size ∧ (∀ (j : Nat) u, ys[j]? = some u → w.cell? (a.add j) = some u) ∧ VRL μ news ys ∧ ∀ u ∈ ys, u.oneCell' = true := fun {n} hk1 hk2 => by
    unfold appOk at hk1
    simp only [Bool.and_eq_true] at hk1
    obtain ⟨q1, q2, q3, q4, q5, q6⟩ := hk1
    have q1 : 0 < m := Nat.le_of_ble_eq_true q1
    subst hk2
    exact ⟨q1, Nat.le_of_ble_eq_true q2, Nat.eq_of_beq_eq_true q3, Nat.le_of_ble_eq_true q5, Nat.le_trans (Nat.le_of_ble_eq_true q6) (by decide), parts_app hh hx hp q1 q4⟩
  -- a new block
  have fresh : ∀ {h1 : Heap} (_ : HeapR μ h1 w B) (_ : h1.length = h.length) {n old : Nat} {olds : List Value} {cs : List Value}, n + m ≤ maxLen → 0 < m → z.cells.size = i.size → ∀ {ys : List Value}, ys.length = m * i.size → VRL μ news ys → olds.length = n * i.size → VRL μ cs olds →
      ∃ μ', Sub μ μ' ∧ VR μ' (.slice (some ⟨h.length, 0, none⟩) (n + m) (n + m)) (.slice (some ⟨w.heap.size, 0, none⟩) (n + m) (grownCap w (n + m) old e)) ∧
        HeapR μ' (h1 ++ [some (cs ++ news)]) (w.drew.alloc (.cells (olds.toArray ++ ys.toArray ++ Builtin.zeroCells z.cells (grownCap w (n + m) old e - (n + m))) e)) B := fun {h1} hh1 hlen {n old olds cs} hmx hm0 hzs {ys} hyl hnv hol hcv => by
    have hge := grownCap_ge w (n + m) old e
    have hcm : grownCap w (n + m) old e ≤ maxLen := grownCap_le_maxLen w (n + m) old e hmx
    have hsize := grown_row (i := i) (z := z.cells) (cap := grownCap w (n + m) old e) hol hyl hzs hge
    generalize hR : (olds.toArray ++ ys.toArray ++ Builtin.zeroCells z.cells (grownCap w (n + m) old e - (n + m))) = R at hsize
    have hv : VRL μ (cs ++ news) (R.toList.take (cs ++ news).length) := by
      have h2 := hcv.append hnv
      have h3 : R.toList.take (cs ++ news).length = olds ++ ys := by
        rw [← hR, h2.1]
        simp only [Array.toList_append, List.append_assoc]
        rw [← List.append_assoc, List.take_left]
      rw [h3]
      exact h2
    have hd : HeapR μ h1 w.drew B := hh1.drew
    have hpush := hd.push (w := w.drew) hB e hv
    rw [hlen] at hpush
    have hcl : (cs ++ news).length = (n + m) * i.size := by rw [List.length_append, hcv.1, hnv.1, hol, hyl, ← Nat.add_mul]
    refine ⟨_, sub_upd (hh.non _ getD_len) fun y q => absurd (hh.lt q) (Nat.lt_irrefl _), .slice _ _ _ _ _ _ upd_self ?_, hpush⟩
    refine .inr ⟨by omega, hge, 0, i.size, ?_, hcm, ?_, .inr rfl⟩
    · show (if w.heap.size = w.heap.size then R.size else _) = _
      rw [if_pos rfl, hsize]; rfl
    · show (if h.length = h.length then (cs ++ news).length else _) = _
      rw [if_pos rfl, hcl]; rfl
  have bel : ∀ o : Obj, Below B w (w.drew.alloc o) := fun o => (Below.drawn B w).alloc (w := w.drew) hB o
  split at ha
  · -- nil
    simp only [Option.some.injEq, Prod.mk.injEq, Bool.and_eq_true] at ha
    obtain ⟨rfl, rfl, rfl, hk1, hk2⟩ := ha
    obtain ⟨m0, s0, zs, hby, hmx, a, c, ys, rfl, y1, y2, y3, y4⟩ := facts hk1 hk2
    cases hs
    have hr := run_append_nil (P := P) w t ty e i z ht hi hz a m c ys y1 y2 m0 (by simp only [maxLen] at hmx; omega) (by rw [Nat.zero_add] at hby; omega)
    obtain ⟨μ', g1, g2, g3⟩ := fresh hh rfl (n := 0) (old := 0) (olds := []) (cs := []) hmx m0 zs y1 y3 (by simp) VRL.nil
    rw [Nat.zero_add] at g2 g3
    refine ⟨_, _, μ', hr, g1, g2, ?_, bel _⟩
    simpa [killH] using g3
  · -- a block
    rename_i b l c0
    cases hc0 : Nat.beq c0 0 with
    | true =>
      have := Nat.eq_of_beq_eq_true hc0
      subst this
      rw [hc0, cond_true] at ha
      simp only [Option.some.injEq, Prod.mk.injEq, Bool.and_eq_true] at ha
      obtain ⟨rfl, rfl, rfl, hl0, hk1, hk2⟩ := ha
      have := Nat.eq_of_beq_eq_true hl0
      subst this
      obtain ⟨m0, s0, zs, hby, hmx, a, c, ys, rfl, y1, y2, y3, y4⟩ := facts hk1 hk2
      obtain ⟨b', c', rfl, hb, hcap⟩ := hs.slice_inv
      have hc' : c' = 0 := by
        rcases hcap with q | ⟨q, _⟩
        · exact q.symm
        · exact absurd q (Nat.lt_irrefl _)
      subst hc'
      have hr := run_append_grow (P := P) w t ty e i z ht hi hz ⟨b', 0, none⟩ 0 0 [] (by simp) (fun j v hj => by simp at hj) a m c ys y1 y2 (by omega) (by simp only [maxLen] at hmx; omega) (growslice_fits (by omega) hby)
      obtain ⟨μ', g1, g2, g3⟩ := fresh hh rfl (n := 0) (old := 0) (olds := []) (cs := []) hmx m0 zs y1 y3 (by simp) VRL.nil
      rw [Nat.zero_add] at g2 g3 hr
      refine ⟨_, _, μ', hr, g1, g2, ?_, bel _⟩
      simpa [killH] using g3
    | false =>
      rw [hc0, cond_false] at ha
      split at ha
      case h_2 => cases ha
      rename_i cs hrow
      simp only [Option.some.injEq, Prod.mk.injEq, Bool.and_eq_true] at ha
      obtain ⟨rfl, rfl, rfl, ⟨hlc, hcl⟩, hk1, hk2⟩ := ha
      have := Nat.eq_of_beq_eq_true hlc
      subst this
      have hcl := Nat.eq_of_beq_eq_true hcl
      have hl0 : 0 < l := Nat.pos_of_ne_zero (Nat.ne_of_beq_eq_false hc0)
      obtain ⟨m0, s0, zs, hby, hmx, a, c, ys, rfl, y1, y2, y3, y4⟩ := facts hk1 hk2
      obtain ⟨b', c', rfl, hb, hcap⟩ := hs.slice_inv
      obtain ⟨b2, cs', T, g1, g2, g3, g4⟩ := hh.dom b cs hrow
      rw [hb] at g1; cases g1
      have hlen := row_len g4
      have hne : cs ≠ [] := fun q => by
        rw [q] at hcl
        have : 0 < l * i.size := Nat.mul_pos hl0 s0
        simp at hcl
        omega
      have hkill : killH h (some b) = h.set b (some []) := rfl
      have olds : (cs'.toList.take (l * i.size)).length = l * i.size := by rw [List.length_take]; omega
      rw [hcl] at g4
      by_cases hroom : l + m ≤ c'
      · -- there is room
        have hin : l < c' := by omega
        rcases hcap with q | ⟨_, _, kk, ss, k1, k2, k3, k4⟩
        · omega
        have hk0 : kk = 0 := by
          rcases k4 with k4 | k4
          · exact absurd k4 (Nat.lt_irrefl _)
          · exact k4
        subst hk0
        obtain ⟨p1, p2⟩ := hh.size b cs b' cs' T hrow hb g3
        have hrl : cs.length = l * ss := by
          rcases p2 with p2 | p2
          · exact absurd p2 hne
          · exact p2.trans k3
        have hss : ss = i.size := Nat.eq_of_mul_eq_mul_left hl0 (hrl.symm.trans hcl)
        subst hss
        have hcs : cs'.size = c' * i.size := p1.trans k1
        have hfit : l * i.size + ys.length ≤ cs'.size := by
          rw [y1, hcs, ← Nat.add_mul]; exact Nat.mul_le_mul_right _ hroom
        have hr := app_room (P := P) w t ty e i ht hi g3 a m c ys y1 y2 y4 hroom hfit
        have hnew : VRL μ (cs ++ news) (((cs'.toList.take (l * i.size) ++ ys ++ cs'.toList.drop (l * i.size + ys.length)).toArray).toList.take (cs ++ news).length) := by
          have h2 := g4.append y3
          rw [h2.1, List.toList_toArray, List.take_left]
          exact h2
        refine ⟨_, _, _, hr, ?_, ?_, hh.grow hrow hne hb g3 ?_ hnew, below_setRow g2 _⟩
        · exact sub_upd (hh.non _ getD_len) fun _ _ => rfl
        · refine .slice _ _ _ _ _ _ upd_self ?_
          by_cases hex : l + m = c'
          · exact .inl hex
          · refine .inr ⟨by omega, hroom, 0, i.size, ?_, k2, ?_, .inr rfl⟩
            · show (if b' = b' then μ.sz b' else _) = _
              rw [if_pos rfl, k1]
            · show (if h.length = h.length then (cs ++ news).length else _) = _
              rw [if_pos rfl, List.length_append, hcl, y3.1, y1, ← Nat.add_mul]; rfl
        · simp only [List.size_toArray, List.length_append, List.length_take, List.length_drop]
          have : cs'.toList.length = cs'.size := Array.length_toList
          omega
      · -- a greater block
        have hr := run_append_grow (P := P) w t ty e i z ht hi hz ⟨b', 0, none⟩ l c' (cs'.toList.take (l * i.size)) olds (fun j u hj => by
          have hadd : (⟨b', 0, none⟩ : Addr).add j = ⟨b', j, none⟩ := by unfold Addr.add; split <;> simp_all
          rw [hadd, cell_of_row w b' j cs' T _ g3]
          rw [List.getElem?_take] at hj
          split at hj
          · simpa using hj
          · cases hj) a m c ys y1 y2 (by omega) (by simp only [maxLen] at hmx; omega) (growslice_fits (by omega) hby)
        obtain ⟨μ', q1, q2, q3⟩ := fresh (hh.kill hrow) List.length_set (n := l) (old := c') (olds := cs'.toList.take (l * i.size)) (cs := cs) hmx m0 zs y1 y3 olds g4
        exact ⟨_, _, μ', hr, q1, q2, q3, bel _⟩
  · cases ha
end
end Ev
