/- An evaluator of closed calls over an abstract heap: its definitions. Addresses are names (id, version) given in the order of making; capacities that the tape draws stay unnamed. -/
import GoSem.Dispatch
import GoSem.Step
import Derived.Lib.Bytealg
namespace Go.Proofs.Ytcdpmiebmhjmpaa.Ev
open Go

set_option maxRecDepth 4000
noncomputable section

/-- A map by numbers. -/
inductive T (α : Type) where
  | leaf
  | node (l : T α) (v : Option α) (r : T α)
  | fn (f : Nat → Option α)

/-BEGIN-T-/
namespace T
noncomputable def get {α : Type} (t : T α) : Nat → Option α :=
  T.rec (motive := fun _ => Nat → Option α) (fun _ => none)
    (fun _ v _ ihl ihr n => bif Nat.beq n 0 then v else bif Nat.beq (Nat.mod n 2) 1 then ihl (Nat.div n 2) else ihr (Nat.sub (Nat.div n 2) 1)) (fun f n => f n) t
noncomputable def one {α : Type} (x : Option α) (fuel : Nat) : Nat → T α :=
  Nat.rec (motive := fun _ => Nat → T α) (fun _ => leaf)
    (fun _ ih n => bif Nat.beq n 0 then node leaf x leaf else bif Nat.beq (Nat.mod n 2) 1 then node (ih (Nat.div n 2)) none leaf else node leaf none (ih (Nat.sub (Nat.div n 2) 1))) fuel
/-- What is done with it when it is reckoned. -/
noncomputable def seq {α β : Type} (t : T α) (f : T α → β) : β := T.rec (motive := fun _ => β) (f leaf) (fun l v r _ _ => f (node l v r)) (fun g => f (fn g)) t
noncomputable def set {α : Type} (x : Option α) (t : T α) : Nat → T α :=
  T.rec (motive := fun _ => Nat → T α) (fun n => one x (Nat.succ n) n)
    (fun l v r ihl ihr n => bif Nat.beq n 0 then node l x r else bif Nat.beq (Nat.mod n 2) 1 then seq (ihl (Nat.div n 2)) (fun l => node l v r) else seq (ihr (Nat.sub (Nat.div n 2) 1)) (fun r => node l v r)) (fun f n => fn (fun m => bif Nat.beq m n then x else f m)) t
end T
/-END-T-/

/-- What a value is, without addresses. -/
inductive AV where
  | bool (b : Bool)
  | int (k : IntKind) (n : Int)
  | str (s : List UInt8)
  | nilp
  | ptr (id ver off : Nat)
  | gp (g off : Nat)
  | nils (len cap : Nat)
  | slc (id ver off len cap : Nat)
  | slg (id ver off len st : Nat)
  | nilm
  | mp (id : Nat)
  | nilf
  | fn (f : Fn) (first captured : List AV)
  | yld (id : Nat)
  | nili
  | ifc (t : TypeId) (v : AV)
  | agg (cells : List AV)
  | tup (vs : List AV)
  | sle
  | unk
  deriving Inhabited

structure AEntry where
  key : AV
  val : AV
  born : Nat

inductive ATgt where
  | fn (f : Fn) (captured : List AV)
  | nil
  | collected (id : Nat)

structure ADef where
  tgt : ATgt
  args : List AV

structure ALoop where
  state : LoopState
  pending : Option Code
  fn : FuncId
  n : Nat
  tmps : T AV
  params : Array Tmp
  assign : Code
  body : Code
  defers : Nat

inductive AObj where
  | cells (c : T AV) (n : Nat) (elem : TypeId) (lo hi nv fz : Nat) (sg : Bool) (ex : T Nat)
  | map (es : List AEntry) (clock : Nat)
  | iter (s : List UInt8) (pos : Nat)
  | loop (l : ALoop)
  | dfrd (ds : Option (List ADef))
  | ro (c : T AV) (lo n : Nat)

structure AHeap where
  objs : T AObj
  next : Nat
  glob : T (T AV)

namespace AHeap
def get (h : AHeap) (id : Nat) : Option AObj := h.objs.get id
def put (h : AHeap) (id : Nat) (o : AObj) : AHeap := match h with
  | ⟨objs, next, glob⟩ => ⟨objs.set (some o) id, next, glob⟩
def new (h : AHeap) (o : AObj) : AHeap := match h with
  | ⟨objs, next, glob⟩ => ⟨objs.set (some o) next, next + 1, glob⟩
end AHeap

/-- The cells of a value, of which each is one. -/
def AV.cells : AV → List AV
  | .agg cs => cs
  | v => [v]


def mapG {α β : Type} (f : α → Option β) : List α → List β → Option (List β)
  | [], acc => some acc.reverse
  | a :: r, acc => match f a with
    | none => none
    | some b => mapG f r (b :: acc)

def mapO {α β : Type} (f : α → Option β) (l : List α) : Option (List β) := mapG f l []

/-- A constant's value, where it holds no address. -/
def absV : Nat → Value → Option AV
  | 0, _ => none
  | n + 1, v => match v with
    | .bool b => some (.bool b)
    | .int k n => some (.int k n)
    | .string s => some (.str s.data.toList)
    | .pointer none => some .nilp
    | .slice none l c => some (.nils l c)
    | .map none => some .nilm
    | .nilFunc => some .nilf
    | .nilIface => some .nili
    | .iface t v => (absV n v).map (.ifc t)
    | .agg cs => (mapO (absV n) cs.toList).map .agg
    | .tuple cs => (mapO (absV n) cs.toList).map .tup
    | .func f fs cs => match f with
      | .yield _ => none
      | _ => match mapO (absV n) fs.toList, mapO (absV n) cs.toList with
        | some fs, some cs => some (.fn f fs cs)
        | _, _ => none
    | _ => none

def undefA : AV := .tup []

mutual
def sameAV : Nat → AV → AV → Bool
  | 0, _, _ => false
  | n + 1, x, y => match x, y with
    | .bool a, .bool b => a == b
    | .int j a, .int k b => decide (j = k) && decide (a = b)
    | .str a, .str b => decide (a = b)
    | .nilp, .nilp => true
    | .ptr a b c, .ptr a' b' c' => Nat.beq a a' && Nat.beq b b' && Nat.beq c c'
    | .gp a b, .gp a' b' => Nat.beq a a' && Nat.beq b b'
    | .nils a b, .nils a' b' => Nat.beq a a' && Nat.beq b b'
    | .slc a b c d e, .slc a' b' c' d' e' => Nat.beq a a' && Nat.beq b b' && Nat.beq c c' && Nat.beq d d' && Nat.beq e e'
    | .slg a b c d e, .slg a' b' c' d' e' => Nat.beq a a' && Nat.beq b b' && Nat.beq c c' && Nat.beq d d' && Nat.beq e e'
    | .nilm, .nilm => true
    | .mp a, .mp b => Nat.beq a b
    | .nilf, .nilf => true
    | .fn f a b, .fn g c d => decide (f = g) && sameAL n a c && sameAL n b d
    | .yld a, .yld b => Nat.beq a b
    | .nili, .nili => true
    | .ifc t v, .ifc u w => Nat.beq t u && sameAV n v w
    | .agg a, .agg b => sameAL n a b
    | .tup a, .tup b => sameAL n a b
    | .sle, .sle => true
    | .unk, .unk => true
    | _, _ => false
def sameAL : Nat → List AV → List AV → Bool
  | 0, _, _ => false
  | n + 1, x, y => match x, y with
    | [], [] => true
    | a :: r, b :: s => sameAV n a b && sameAL n r s
    | _, _ => false
end


def ev (t : T AV) : Operand → Option AV
  | .tmp i => t.get i
  | .const v => absV 9 v
  | .global g => some (.gp g 0)
  | .func f => some (.fn (.func f) [] [])

def AV.one : AV → Bool
  | .agg _ | .tup _ => false
  | _ => true

section
variable (P : Program)

def zeroA (t : TypeId) : Option AV := match P.info? t with
  | none => none
  | some i => match i.zero with
    | none => none
    | some v => absV 9 v

def aggT (t : TypeId) : Option Bool := match P.underlying t with
  | none => none
  | some (.struct _) | some (.array _ _) => some true
  | some _ => some false

def partA (t : TypeId) (cs : List AV) (off : Nat) : Option AV := match aggT P t with
  | none => none
  | some true => match P.info? t with
    | none => none
    | some i => some (.agg ((cs.drop off).take i.size))
  | some false => cs[off]?

/-- The extent of a version. -/
def extOf (ex : T Nat) (n hi ver : Nat) : Option Nat := if ver = hi then some n else ex.get ver

def loadG (c : T AV) (off : Nat) : Nat → List AV → Option (List AV)
  | 0, acc => some acc
  | k + 1, acc => match c.get (off + k) with
    | none => none
    | some v => loadG c off k (v :: acc)

def loadList (c : T AV) (off k : Nat) : Option (List AV) := loadG c off k []

def storeList (c : T AV) (off : Nat) : List AV → T AV
  | [] => c
  | v :: r => (c.set (some v) off).seq fun c => storeList c (off + 1) r

/-- k cells from off on, of a version. -/
def loadCellsA (h : AHeap) (id ver off k : Nat) : Option (List AV) := match h.get id with
  | some (.cells c n _ lo hi _ _ _ ex) => match extOf ex n hi ver with
    | none => none
    | some e => if lo ≤ ver ∧ ver ≤ hi ∧ off + k ≤ e then loadList c off k else none
  | some (.ro c lo n) => if ver = 0 ∧ lo ≤ off ∧ off + k ≤ n then loadList c off k else none
  | _ => none

def storeCellsA (h : AHeap) (id ver off : Nat) (vs : List AV) : Option AHeap := match h.get id with
  | some (.cells c n el lo hi nv fz sg ex) => match extOf ex n hi ver with
    | none => none
    | some e =>
      if lo ≤ ver ∧ ver ≤ hi ∧ off + vs.length ≤ e ∧ fz ≤ off ∧ vs.all AV.one = true then
        (storeList c off vs).seq fun c => some (h.put id (.cells c e el ver ver nv fz sg ex))
      else none
  | _ => none

def loadA (h : AHeap) (t : TypeId) : AV → Option AV
  | .ptr id ver off => match aggT P t with
    | none => none
    | some true => match P.info? t with
      | none => none
      | some i => match loadCellsA h id ver off i.size with
        | none => none
        | some l => some (.agg l)
    | some false => match loadCellsA h id ver off 1 with
      | some [v] => some v
      | _ => none
  | .gp g off => match h.glob.get g with
    | none => none
    | some c => match aggT P t with
      | none => none
      | some true => match P.info? t with
        | none => none
        | some i => match loadList c off i.size with
          | none => none
          | some l => some (.agg l)
      | some false => c.get off
  | _ => none

def storeA (h : AHeap) (t : TypeId) (p v : AV) : Option AHeap := match p with
  | .ptr id ver off => match P.info? t with
    | none => none
    | some i => if v.cells.length = i.size then storeCellsA h id ver off v.cells else none
  | _ => none

def newCells (h : AHeap) (el : TypeId) (l : List AV) (sg : Bool) : AHeap :=
  h.new (.cells (storeList .leaf 0 l) l.length el 0 0 1 0 sg .leaf)

def sizeT (t : TypeId) : Option Nat := match P.info? t with
  | none => none
  | some i => some i.size

/-- A new variable. -/
def boxA (h : AHeap) (el : TypeId) (v : AV) : Option (AV × AHeap) :=
  if v.cells.all AV.one = true ∧ sizeT P el = some v.cells.length then some (.ptr h.next 0 0, newCells h el v.cells false) else none

/-- Parts laid into cells. -/
def spliceA (cells : List AV) (off : Nat) (vs : List AV) : List AV := cells.take off ++ vs ++ cells.drop (off + vs.length)

def fillA (place : Nat → Option (Nat × Nat)) (cells : List AV) : List (Nat × AV) → Option (List AV)
  | [] => some cells
  | (i, v) :: rest => match place i with
    | none => none
    | some (off, size) =>
      if v.cells.length = size ∧ off + size ≤ cells.length then fillA place (spliceA cells off v.cells) rest else none

def fieldPlaces : List Field → Option (List (Nat × Nat))
  | [] => some []
  | f :: r => match P.info? f.type with
    | none => none
    | some i => match fieldPlaces r with
      | none => none
      | some l => some ((f.offset, i.size) :: l)

def buildA (t : TypeId) (parts : List (Nat × AV)) : Option AV := match zeroA P t with
  | none => none
  | some z => match P.underlying t with
    | some (.struct fs) => match fieldPlaces P fs.toList with
      | none => none
      | some pl => (fillA (fun i => pl[i]?) z.cells parts).map .agg
    | some (.array _ el) => match P.info? el with
      | none => none
      | some i => (fillA (fun k => some (k * i.size, i.size)) z.cells parts).map .agg
    | _ => none

def repeatL (l : List AV) : Nat → List AV
  | 0 => []
  | n + 1 => l ++ repeatL l n

def buildSliceA (h : AHeap) (t : TypeId) (len : Nat) (parts : List (Nat × AV)) : Option (AV × AHeap) := match P.underlying t with
  | some (.slice el) => match P.info? el with
    | none => none
    | some i =>
      if len * i.size ≤ 2 ^ 24 then
        match zeroA P el with
        | none => none
        | some z =>
          if z.cells.length = i.size ∧ 0 < i.size then
            match fillA (fun k => some (k * i.size, i.size)) (repeatL z.cells len) parts with
            | none => none
            | some cells => if cells.all AV.one then some (.slc h.next 0 0 len len, newCells h el cells false) else none
          else none
      else none
  | _ => none

def bitsA (k : IntKind) (r : BitVec k.bits) : Option AV := some (.int k (k.wrap r.toNat))
def wrapA (k : IntKind) (n : Int) : Option AV := some (.int k (k.wrap n))
def quoA (k : IntKind) (a b : Int) : Option AV := if b = 0 then none else some (.int k (k.wrap (a.tdiv b)))
def remA (k : IntKind) (a b : Int) : Option AV := if b = 0 then none else some (.int k (a.tmod b))
def shlA (k : IntKind) (a b : Int) : Option AV := if b < 0 then none else some (.int k (k.wrap (a * 2 ^ (min b.toNat k.bits))))
def shrA (k : IntKind) (a b : Int) : Option AV := if b < 0 then none else some (.int k (a.fdiv (2 ^ (min b.toNat k.bits))))
def boolA' (b : Bool) : Option AV := some (.bool b)
def andA (k : IntKind) (a b : Int) : Option AV := bitsA k (BitVec.ofInt k.bits a &&& BitVec.ofInt k.bits b)
def orA (k : IntKind) (a b : Int) : Option AV := bitsA k (BitVec.ofInt k.bits a ||| BitVec.ofInt k.bits b)
def xorA (k : IntKind) (a b : Int) : Option AV := bitsA k (BitVec.ofInt k.bits a ^^^ BitVec.ofInt k.bits b)
def andNotA (k : IntKind) (a b : Int) : Option AV := bitsA k (BitVec.ofInt k.bits a &&& ~~~(BitVec.ofInt k.bits b))

def bin_add (k : IntKind) (a b : Int) : Option AV := wrapA k (a + b)
def bin_sub (k : IntKind) (a b : Int) : Option AV := wrapA k (a - b)
def bin_mul (k : IntKind) (a b : Int) : Option AV := wrapA k (a * b)
def bin_eql (_ : IntKind) (a b : Int) : Option AV := boolA' (a == b)
def bin_neq (_ : IntKind) (a b : Int) : Option AV := boolA' (a != b)
def bin_lss (_ : IntKind) (a b : Int) : Option AV := boolA' (decide (a < b))
def bin_leq (_ : IntKind) (a b : Int) : Option AV := boolA' (decide (a ≤ b))
def bin_gtr (_ : IntKind) (a b : Int) : Option AV := boolA' (decide (a > b))
def bin_geq (_ : IntKind) (a b : Int) : Option AV := boolA' (decide (a ≥ b))

/-- Of two integers of one kind. -/
def intBin (op : BinOp) (k : IntKind) (a b : Int) : Option AV :=
  BinOp.rec (motive := fun _ => IntKind → Int → Int → Option AV) bin_add bin_sub bin_mul quoA remA andA orA xorA shlA shrA andNotA bin_eql bin_neq bin_lss bin_leq bin_gtr bin_geq op k a b

def isShift : BinOp → Bool
  | .shl | .shr => true
  | _ => false

def catA (a b : List UInt8) : Option AV := if a.length + b.length < 2 ^ 40 then some (.str (a ++ b)) else none

def strBin (op : BinOp) (a b : List UInt8) : Option AV :=
  match op with
  | .add => catA a b
  | .eql => boolA' (a == b)
  | .neq => boolA' (!(a == b))
  | .lss => boolA' (Op.bytesLess a b)
  | .leq => boolA' (Op.bytesLess a b || a == b)
  | .gtr => boolA' (!(Op.bytesLess a b || a == b))
  | .geq => boolA' (!(Op.bytesLess a b))
  | _ => none

def plainFz (h : AHeap) (id : Nat) : Bool := match h.get id with
  | some (.cells _ _ _ _ _ _ fz sg _) => (fz == 0) && !sg
  | _ => false

def verOk (h : AHeap) (id ver : Nat) : Bool := match h.get id with
  | some (.cells _ n _ lo hi _ _ _ ex) => match extOf ex n hi ver with
    | some _ => decide (lo ≤ ver) && decide (ver ≤ hi)
    | none => false
  | _ => false

def samePtrA (h : AHeap) (id ver off id' ver' off' : Nat) : Option Bool :=
  if id = id' then (if ver = ver' ∧ verOk h id ver = true then some (off == off') else none)
  else if verOk h id ver && verOk h id' ver' && plainFz h id && plainFz h id' then some false else none

def eqFieldsA (eq : TypeId → AV → AV → Option Bool) (xs ys : List AV) : List Field → Option Bool
  | [] => some true
  | f :: r =>
    if f.name ≠ "_" then
      match partA P f.type xs f.offset, partA P f.type ys f.offset with
      | some a, some b => match eq f.type a b with
        | some true => eqFieldsA eq xs ys r
        | some false => some false
        | none => none
      | _, _ => none
    else eqFieldsA eq xs ys r

def eqElemsA (eq : AV → AV → Option Bool) (el : TypeId) (s : Nat) (xs ys : List AV) : Nat → Nat → Option Bool
  | 0, _ => some true
  | n + 1, i =>
    match partA P el xs (i * s), partA P el ys (i * s) with
    | some a, some b => match eq a b with
      | some true => eqElemsA eq el s xs ys n (i + 1)
      | some false => some false
      | none => none
    | _, _ => none

def eqPtrA (h : AHeap) (el : TypeId) (id ver off id' ver' off' : Nat) : Option Bool := match P.info? el with
  | none => none
  | some i => if i.size ≠ 0 then samePtrA h id ver off id' ver' off' else none

def eqP (h : AHeap) (el : TypeId) (x y : AV) : Option Bool := match x with
  | .nilp => match y with
    | .nilp => some true
    | .ptr _ _ _ => some false
    | _ => none
  | .ptr id ver off => match y with
    | .nilp => some false
    | .ptr id' ver' off' => eqPtrA P h el id ver off id' ver' off'
    | _ => none
  | _ => none

def eqI (eq : TypeId → AV → AV → Option Bool) (x y : AV) : Option Bool := match x with
  | .nili => match y with
    | .nili => some true
    | .ifc _ _ => some false
    | _ => none
  | .ifc tx vx => match y with
    | .nili => some false
    | .ifc ty vy => if tx ≠ ty then some false else match P.info? tx with
      | none => none
      | some i => if i.comparable then eq tx vx vy else none
    | _ => none
  | _ => none

def eqS (x y : AV) : Option Bool := match x with
  | .sle => match y with
    | .nils _ _ => some false
    | _ => none
  | .nils _ _ => match y with
    | .nils _ _ => some true
    | .sle => some false
    | .slc .. => some false
    | .slg .. => some false
    | _ => none
  | .slc .. => match y with
    | .nils _ _ => some false
    | _ => none
  | .slg .. => match y with
    | .nils _ _ => some false
    | _ => none
  | _ => none

def eqM (x y : AV) : Option Bool := match x with
  | .nilm => match y with
    | .nilm => some true
    | .mp _ => some false
    | _ => none
  | .mp _ => match y with
    | .nilm => some false
    | _ => none
  | _ => none

def eqF (x y : AV) : Option Bool := match x with
  | .nilf => match y with
    | .nilf => some true
    | .fn .. => some false
    | .yld _ => some false
    | _ => none
  | .fn .. => match y with
    | .nilf => some false
    | _ => none
  | .yld _ => match y with
    | .nilf => some false
    | _ => none
  | _ => none

def eqB (x y : AV) : Option Bool := match x with
  | .bool a => match y with
    | .bool b => some (a == b)
    | _ => none
  | _ => none

def eqN (x y : AV) : Option Bool := match x with
  | .int k a => match y with
    | .int k' b => if k = k' then some (a == b) else none
    | _ => none
  | _ => none

def eqT (x y : AV) : Option Bool := match x with
  | .str a => match y with
    | .str b => some (a == b)
    | _ => none
  | _ => none

def eqR (eq : TypeId → AV → AV → Option Bool) (t : TypeId) (fs : Array Field) (x y : AV) : Option Bool := match x with
  | .agg xs => match y with
    | .agg ys => if P.stoodInHeld t then none else eqFieldsA P eq xs ys fs.toList
    | _ => none
  | _ => none

def eqL (eq : TypeId → AV → AV → Option Bool) (n : Nat) (el : TypeId) (x y : AV) : Option Bool := match x with
  | .agg xs => match y with
    | .agg ys => match P.info? el with
      | none => none
      | some i => eqElemsA P (eq el) el i.size xs ys n 0
    | _ => none
  | _ => none

/-- '==' of two values of a type. -/
def eqA (h : AHeap) : Nat → TypeId → AV → AV → Option Bool
  | 0, _, _, _ => none
  | d + 1, t, x, y => match P.underlying t with
    | none => none
    | some u => match u with
      | .bool => eqB x y
      | .int _ => eqN x y
      | .string => eqT x y
      | .pointer el => eqP P h el x y
      | .interface _ => eqI P (eqA h d) x y
      | .struct fs => eqR P (eqA h d) t fs x y
      | .array n el => eqL P (eqA h d) n el x y
      | .slice _ => eqS x y
      | .map _ _ => eqM x y
      | .func _ _ _ => eqF x y
      | _ => none

/-! ## The operations -/

/-- What an operation comes to. -/
inductive AR where
  | val (v : AV) (h : AHeap)
  | skip (h : AHeap)
  | enter (f : FuncId) (args : List AV) (h : AHeap)
  | round (id : Nat) (args : List AV)
  | dfr (d : ADef)
  | recover
  | panic (v : AV)

def intOfA : AV → Option Int
  | .int _ n => some n
  | _ => none

def eqOpA (h : AHeap) (op : BinOp) (t : TypeId) (x y : AV) : Option AV := match op with
  | .eql => match eqA P h 9 t x y with
    | none => none
    | some b => some (.bool b)
  | .neq => match eqA P h 9 t x y with
    | none => none
    | some b => some (.bool (!b))
  | _ => none

/-- Two nil interface values: where one of the operands is the literal. -/
def nilEqB (op : BinOp) : Option AV := match op with
  | .eql => some (.bool true)
  | .neq => some (.bool false)
  | _ => none

def nilEqA (op : BinOp) (t : TypeId) (lit : Bool) : Option AV := match lit with
  | false => none
  | true => match P.underlying t with
    | some (.interface _) => nilEqB op
    | _ => none

def isConstO : Operand → Bool
  | .const _ => true
  | _ => false

def binIntA (op : BinOp) (k : IntKind) (a : Int) (y : AV) : Option AV := match y with
  | .int k' b => if k = k' ∨ isShift op = true then intBin op k a b else none
  | _ => none

def binStrA (op : BinOp) (a : List UInt8) (y : AV) : Option AV := match y with
  | .str b => strBin op a b
  | _ => none

def binNilA (h : AHeap) (op : BinOp) (t : TypeId) (lit : Bool) (y : AV) : Option AV := match y with
  | .nili => nilEqA P op t lit
  | y => eqOpA P h op t .nili y

def binAggA (h : AHeap) (op : BinOp) (t : TypeId) (x y : AV) : Option AV :=
  if P.eqGuardType P.depth t then none else eqOpA P h op t x y

/-- A value of which nothing is told. -/
def isUnk (x : AV) : Bool := match x with
  | .unk => true
  | _ => false

def binB (h : AHeap) (op : BinOp) (t : TypeId) (lit : Bool) (x y : AV) : Option AV :=
  match x with
  | .int k a => binIntA op k a y
  | .str a => binStrA op a y
  | .nili => binNilA P h op t lit y
  | .agg l => binAggA P h op t (.agg l) y
  | x => eqOpA P h op t x y

def binA (h : AHeap) (op : BinOp) (t : TypeId) (lit : Bool) (x y : AV) : Option AV := match isUnk x || isUnk y with
  | true => none
  | false => binB P h op t lit x y

def negA (x : AV) : Option AV := match x with
  | .int k n => wrapA k (0 - n)
  | _ => none
def comA (x : AV) : Option AV := match x with
  | .int k n => xorA k (if k.signed then -1 else k.max) n
  | _ => none
def notA (x : AV) : Option AV := match x with
  | .bool b => some (.bool !b)
  | _ => none
def unA (op : UnOp) (x : AV) : Option AV :=
  match op with
  | .neg => negA x
  | .xor => comA x
  | .not => notA x
  | .plus => none

def lenSlice (x : AV) : Option Nat := match x with
  | .nils n _ => some n
  | .slc _ _ _ n _ => some n
  | .slg _ _ _ n _ => some n
  | .sle => some 0
  | _ => none
def lenStr (x : AV) : Option Nat := match x with
  | .str s => some s.length
  | _ => none
def lenMapAt (o : Option AObj) : Option Nat := match o with
  | some (.map es _) => some es.length
  | _ => none
def lenMap (h : AHeap) (x : AV) : Option Nat := match x with
  | .nilm => some 0
  | .mp id => lenMapAt (h.get id)
  | _ => none
def lenArr (d : Option TypeDesc) : Option Nat := match d with
  | some (.array n _) => some n
  | _ => none
def lenA (h : AHeap) (t : TypeId) (x : AV) : Option Nat :=
  match P.underlying t with
  | none => none
  | some u => match u with
    | .string => lenStr x
    | .array n _ => some n
    | .pointer arr => lenArr (P.underlying arr)
    | .slice _ => lenSlice x
    | .map _ _ => lenMap h x
    | _ => none

/-- How many elements a slice is known to have room for. -/
def roomOf (h : AHeap) (el : TypeId) (sz id ver off len st : Nat) : Nat := match h.get id with
  | some (.cells _ n el' lo hi _ _ _ ex) => match extOf ex n hi ver with
    | some e => if lo ≤ ver ∧ ver ≤ hi ∧ el' = el ∧ off = st * sz ∧ 0 < sz ∧ len + st ≤ e / sz then e / sz - st else len
    | none => len
  | _ => len

/-- A bound: from 0 to y. -/
def boundA (v : Int) (y : Nat) : Option Nat := if 0 ≤ v ∧ v ≤ y then some v.toNat else none

def boundsHi (len m : Nat) (isMax : Bool) (hi : Option Int) : Option Nat := match hi with
  | none => match isMax with
    | true => none
    | false => some len
  | some v => boundA v m

def boundsLo (lo : Option Int) (h : Nat) : Option Nat := match lo with
  | none => some 0
  | some v => boundA v h

def boundsMx (mx : Option Int) (cap : Nat) : Option Nat := match mx with
  | none => some cap
  | some v => boundA v cap

/-- Bounds of a slice expression, none of which fails: low, high, max. -/
def boundsA (len cap : Nat) (lo hi mx : Option Int) : Option (Nat × Nat × Nat) :=
  match boundsMx mx cap with
  | none => none
  | some m => match boundsHi len m mx.isSome hi with
    | none => none
    | some h => match boundsLo lo h with
      | none => none
      | some l => some (l, h, m)

def slcOf (id ver off size : Nat) (b : Option (Nat × Nat × Nat)) : Option AV := match b with
  | none => none
  | some (l, h, m) => some (.slc id ver (if m = l then off else off + l * size) (h - l) (m - l))
def slgOf (id ver off len st size : Nat) (mx : Option Int) (b : Option (Nat × Nat × Nat)) : Option AV := match mx with
  | some _ => match len with
    | 0 => none
    | _ + 1 => slcOf id ver off size b
  | none => match b with
    | none => none
    | some (l, h, _) => some (.slg id ver (off + l * size) (h - l) (st + l))
def nilsOf (b : Option (Nat × Nat × Nat)) : Option AV := match b with
  | none => none
  | some (l, h, m) => some (.nils (h - l) (m - l))
def strOf (s : List UInt8) (b : Option (Nat × Nat × Nat)) : Option AV := match b with
  | none => none
  | some (l, h, _) => some (.str ((s.drop l).take (h - l)))
def sliceArr (n : Nat) (size : Option Nat) (x : AV) (lo hi mx : Option Int) : Option AV := match x with
  | .ptr id ver off => match size with
    | none => none
    | some s => slcOf id ver off s (boundsA n n lo hi mx)
  | _ => none
def sliceStr (x : AV) (lo hi mx : Option Int) : Option AV := match x with
  | .str s => match mx with
    | some _ => none
    | none => strOf s (boundsA s.length s.length lo hi none)
  | _ => none
def sliceSl (size : Option Nat) (x : AV) (lo hi mx : Option Int) : Option AV := match size with
  | none => none
  | some sz => match x with
    | .nils len cap => nilsOf (boundsA len cap lo hi mx)
    | .slc id ver off len cap => slcOf id ver off sz (boundsA len cap lo hi mx)
    | .slg id ver off len st => slgOf id ver off len st sz mx (boundsA len len lo hi mx)
    | .sle => match boundsA 0 0 lo hi mx with
      | none => none
      | some _ => some .sle
    | _ => none

def sliceA (t : TypeId) (x : AV) (lo hi mx : Option Int) : Option AV :=
  match P.underlying t with
  | none => none
  | some u => match u with
    | .array n el => sliceArr n (sizeT P el) x lo hi mx
    | .string => sliceStr x lo hi mx
    | .slice el => sliceSl (sizeT P el) x lo hi mx
    | _ => none

def sliceRoom (h : AHeap) (el : TypeId) (sz : Nat) (x : AV) (lo hi : Option Int) : Option AV := match x with
  | .slg id ver off len st => slgOf id ver off len st sz none (boundsA len (roomOf h el sz id ver off len st) lo hi none)
  | _ => none

/-- Beyond what a slice holds, within what is there. -/
def sliceX (h : AHeap) (t : TypeId) (x : AV) (lo hi mx : Option Int) : Option AV := match mx with
  | some _ => none
  | none => match P.underlying t with
    | some (.slice el) => match sizeT P el with
      | none => none
      | some sz => sliceRoom h el sz x lo hi
    | _ => none

def sliceH (h : AHeap) (t : TypeId) (x : AV) (lo hi mx : Option Int) : Option AV := match sliceA P t x lo hi mx with
  | some v => some v
  | none => sliceX P h t x lo hi mx

def fieldPtr (x : AV) (off : Nat) (size : Option Nat) : Option AV := match x with
  | .ptr id ver o => match size with
    | none => none
    | some 0 => none
    | some (_ + 1) => some (.ptr id ver (o + off))
  | _ => none

def fieldAddrA (s : TypeId) (x : AV) (f : Nat) : Option AV :=
  match P.underlying s with
  | none => none
  | some u => match u with
    | .struct fs => match fs[f]? with
      | none => none
      | some fl => fieldPtr x fl.offset (sizeT P fl.type)
    | _ => none

def partOf (t : TypeId) (x : AV) (off : Nat) : Option AV := match x with
  | .agg cs => partA P t cs off
  | _ => none

def fieldA (t : TypeId) (x : AV) (f : Nat) : Option AV :=
  match P.underlying t with
  | none => none
  | some u => match u with
    | .struct fs => match fs[f]? with
      | none => none
      | some fl => partOf P fl.type x fl.offset
    | _ => none

def elemPtr (id ver off len size : Nat) (i : Int) : Option AV := if 0 ≤ i ∧ i < len then some (.ptr id ver (off + i.toNat * size)) else none

def elemArr (len : Nat) (size : Option Nat) (x : AV) (i : Int) : Option AV := match size with
  | none => none
  | some s => match x with
    | .ptr id ver off => elemPtr id ver off len s i
    | .gp g off => if 0 ≤ i ∧ i < len then some (.gp g (off + i.toNat * s)) else none
    | _ => none
def elemSl (size : Option Nat) (x : AV) (i : Int) : Option AV := match size with
  | none => none
  | some s => match x with
    | .slc id ver off len _ => elemPtr id ver off len s i
    | .slg id ver off len _ => elemPtr id ver off len s i
    | _ => none

def indexAddrA (t : TypeId) (x ix : AV) : Option AV :=
  match ix with
  | .int _ i => match P.underlying t with
    | none => none
    | some u => match u with
      | .array len el => elemArr len (sizeT P el) x i
      | .slice el => elemSl (sizeT P el) x i
      | _ => none
  | _ => none

def indexArr (len : Nat) (el : TypeId) (size : Option Nat) (x : AV) (i : Int) : Option AV := match size with
  | none => none
  | some s => match x with
    | .agg cs => if 0 ≤ i ∧ i < len then partA P el cs (i.toNat * s) else none
    | _ => none
def byteOf' (o : Option UInt8) : Option AV := match o with
  | none => none
  | some b => some (.int .u8 b.toNat)
def indexStr (x : AV) (i : Int) : Option AV := match x with
  | .str s => if 0 ≤ i then byteOf' s[i.toNat]? else none
  | _ => none

def indexA (t : TypeId) (x ix : AV) : Option AV :=
  match ix with
  | .int _ i => match P.underlying t with
    | none => none
    | some u => match u with
      | .array len el => indexArr P len el (sizeT P el) x i
      | .string => indexStr x i
      | _ => none
  | _ => none

def byteA (v : AV) : Option UInt8 := match v with
  | .int k n => match k with
    | .u8 => some (UInt8.ofNat n.toNat)
    | _ => none
  | _ => none

def bytesA (l : List AV) : Option (List UInt8) := mapO byteA l

def byteCells (s : List UInt8) : List AV := s.map fun b => .int .u8 b.toNat

/-- The first n elements of a slice, or bytes of a string. -/
def firstA (h : AHeap) (size n : Nat) (x : AV) : Option (List AV) := match x with
  | .nils _ _ => some []
  | .slc id ver off _ _ => loadCellsA h id ver off (n * size)
  | .slg id ver off _ _ => loadCellsA h id ver off (n * size)
  | .str s => some (byteCells (s.take n))
  | .sle => match n with
    | 0 => some []
    | _ + 1 => none
  | _ => none

def countA (x : AV) : Option Nat := match x with
  | .nils n _ => some n
  | .slc _ _ _ n _ => some n
  | .slg _ _ _ n _ => some n
  | .str s => some s.length
  | .sle => some 0
  | _ => none

def strAV (l : Option (List UInt8)) : Option AV := match l with
  | none => none
  | some s => some (.str s)
def cellsStr (l : Option (List AV)) : Option AV := match l with
  | none => none
  | some l => strAV (bytesA l)

def convInt (k : IntKind) (x : AV) : Option AV := match x with
  | .int _ n => wrapA k n
  | _ => none
def isByteT (e : TypeId) : Bool := match P.underlying e with
  | some (.int .u8) => true
  | _ => false
def convStr (h : AHeap) (bytes : Bool) (x : AV) : Option AV := match x with
  | .str s => match bytes with
    | true => none
    | false => some (.str s)
  | .int _ n => match bytes with
    | true => none
    | false => some (.str (Utf8.encode n).data.toList)
  | .nils _ _ => match bytes with
    | true => some (.str [])
    | false => none
  | .slc id ver off len _ => match bytes with
    | true => cellsStr (loadCellsA h id ver off len)
    | false => none
  | .slg id ver off len _ => match bytes with
    | true => cellsStr (loadCellsA h id ver off len)
    | false => none
  | _ => none
def isByteSlice (t : TypeId) : Bool := match P.underlying t with
  | some (.slice e) => isByteT P e
  | _ => false

/-- A pointer to a variable that is there, taken for one without a type, and back. -/
def toUnsafe (h : AHeap) (size : Option Nat) (x : AV) : Option AV := match x with
  | .ptr id ver off => match size, h.get id with
    | some (_ + 1), some (.cells _ n _ lo hi _ _ _ ex) => match extOf ex n hi ver with
      | some e => if lo ≤ ver ∧ ver ≤ hi ∧ off < e then some x else none
      | none => none
    | _, _ => none
  | _ => none
/-- A field among which, at that place, one of the type begins. -/
def fieldFits (f : TypeId → Nat → Bool) (r : Nat) : List Field → Bool
  | [] => false
  | x :: l => match sizeT P x.type with
    | none => false
    | some s => match Nat.ble x.offset r && Nat.blt r (x.offset + s) with
      | true => f x.type (r - x.offset)
      | false => fieldFits f r l

/-- An element, in which, at that place, one of the type begins. -/
def arrFits (f : TypeId → Nat → Bool) (m : Nat) (s : Option Nat) (e : TypeId) (r : Nat) : Bool := match s with
  | none => false
  | some s => match s with
    | 0 => false
    | s + 1 => Nat.blt (r / (s + 1)) m && f e (r % (s + 1))

/-- Does one of the type begin at that place of another? -/
def fitsIn (u : TypeId) : Nat → TypeId → Nat → Bool
  | 0, _, _ => false
  | d + 1, e, r => match Nat.beq r 0 && Nat.beq e u with
    | true => true
    | false => match P.underlying e with
      | some (.struct fs) => !(P.stoodInHeld e) && fieldFits P (fitsIn u d) r fs.toList
      | some (.array m e) => arrFits (fitsIn u d) m (sizeT P e) e r
      | _ => false

def fitsAt (u : TypeId) (es : Option Nat) (el off : Nat) : Bool := match es with
  | none => false
  | some s => match s with
    | 0 => false
    | s + 1 => fitsIn P u 9 el (off % (s + 1))

def fromUnsafe (h : AHeap) (u : TypeId) (size : Option Nat) (x : AV) : Option AV := match x with
  | .ptr id ver off => match size, h.get id with
    | some (_ + 1), some (.cells _ n el lo hi _ _ _ ex) => match extOf ex n hi ver with
      | some e => if lo ≤ ver ∧ ver ≤ hi ∧ off < e ∧ fitsAt P u (sizeT P el) el off = true then some x else none
      | none => none
    | _, _ => none
  | _ => none
def isPtrT (t : TypeId) : Option TypeId := match P.underlying t with
  | some (.pointer e) => some e
  | _ => none
def isUnsafeT (t : TypeId) : Bool := match P.underlying t with
  | some .unsafePointer => true
  | _ => false

/-- Conversions that make nothing. -/
def convA (h : AHeap) (src dst : TypeId) (x : AV) : Option AV :=
  match P.underlying src with
  | none => none
  | some _ => match P.underlying dst with
    | none => none
    | some u => match u with
      | .int k => convInt k x
      | .string => convStr h (isByteSlice P src) x
      | .unsafePointer => match isPtrT P src with
        | none => none
        | some t => toUnsafe h (sizeT P t) x
      | .pointer t => match isUnsafeT P src with
        | true => fromUnsafe P h t (sizeT P t) x
        | false => none
      | _ => none

def newBytes (h : AHeap) (e : TypeId) (x : AV) : Option (AV × AHeap) := match x with
  | .str s => if isByteT P e = true ∧ P.cellsOf e = 1 then some (.slg h.next 0 0 s.length 0, newCells h e (byteCells s) true) else none
  | _ => none

/-- A string's bytes as a slice. -/
def convNewA (h : AHeap) (src dst : TypeId) (x : AV) : Option (AV × AHeap) :=
  match P.underlying src with
  | some .string => match P.underlying dst with
    | some (.slice e) => newBytes P h e x
    | _ => none
  | _ => none

/-- May so many elements be made? -/
def roomA (need bytes : Nat) : Bool := Nat.ble ((2 * need + 1000) * bytes) (2 ^ 48) && Nat.blt need (2 ^ 60)

def appendFresh (h : AHeap) (el : TypeId) (size bytes sLen need : Nat) (s : AV) (new : List AV) : Option (AV × AHeap) :=
  if roomA need bytes then
    match firstA h size sLen s with
    | none => none
    | some old => if old.all AV.one = true ∧ old.length = sLen * size then some (.slg h.next 0 0 need 0, newCells h el (old ++ new) false) else none
  else none

def appendIn (h : AHeap) (id ver off size sLen need cap : Nat) (new : List AV) : Option (AV × AHeap) :=
  match storeCellsA h id ver (off + sLen * size) new with
  | none => none
  | some h' => some (.slc id ver off need cap, h')

def appendGrow (h : AHeap) (el : TypeId) (size bytes id ver off st sLen need : Nat) (new : List AV) : Option (AV × AHeap) :=
  match h.get id with
  | some (.cells c m el' lo hi nv fz sg ex) => match extOf ex m hi ver with
    | none => none
    | some e =>
      let at_ := off + sLen * size
      if lo ≤ ver ∧ ver ≤ hi ∧ at_ ≤ e ∧ fz ≤ at_ ∧ el' = el ∧ off = st * size ∧ hi < nv ∧ roomA need bytes = true then
        if m ≤ at_ ∧ hi + 1 = nv then
          (storeList c at_ new).seq fun c => (ex.set (some m) hi).seq fun ex => some (.slg id nv off need st, h.put id (.cells c (at_ + new.length) el lo nv (nv + 1) fz sg ex))
        else
          (storeList c at_ new).seq fun c => some (.slg id nv off need st, h.put id (.cells c (at_ + new.length) el nv nv (nv + 1) fz sg ex))
      else none
  | _ => none

/-- Within what is known to be there. -/
def appendKnown (h : AHeap) (el : TypeId) (size id ver off st sLen need : Nat) (new : List AV) : Option (AV × AHeap) :=
  match h.get id with
  | some (.cells _ m el' lo hi _ _ _ ex) => match extOf ex m hi ver with
    | none => none
    | some e =>
      if off + need * size ≤ e ∧ lo ≤ ver ∧ ver ≤ hi ∧ el' = el ∧ off = st * size then
        match storeCellsA h id ver (off + sLen * size) new with
        | none => none
        | some h' => some (.slg id ver off need st, h')
      else none
  | _ => none

def appendTo (h : AHeap) (el : TypeId) (size bytes sLen n : Nat) (s : AV) (new : List AV) : Option (AV × AHeap) :=
  match s with
  | .nils _ cap => match cap with
    | 0 => appendFresh h el size bytes sLen (sLen + n) s new
    | _ + 1 => none
  | .slc id ver off _ cap =>
    if sLen + n ≤ cap then appendIn h id ver off size sLen (sLen + n) cap new
    else appendFresh h el size bytes sLen (sLen + n) s new
  | .slg id ver off _ st => match appendKnown h el size id ver off st sLen (sLen + n) new with
    | some r => some r
    | none => appendGrow h el size bytes id ver off st sLen (sLen + n) new
  | _ => none

/-- Nothing is appended. -/
def appendNone (h : AHeap) (s : AV) : Option (AV × AHeap) := match s with
  | .nils l c => if l ≤ c then some (.nils l c, h) else none
  | .slc i r o l c => if l ≤ c then some (.slc i r o l c, h) else none
  | .slg i r o l st => some (.slg i r o l st, h)
  | _ => none

/-- What is appended: so many elements, their cells. -/
def appended (h : AHeap) (size : Nat) (z : AV) (zeros : Bool) (x : AV) : Option (Nat × List AV) := match zeros with
  | true => match x with
    | .int _ l => if 0 ≤ l ∧ l < 2 ^ 40 then some (l.toNat, repeatL z.cells l.toNat) else none
    | _ => none
  | false => match countA x with
    | none => none
    | some n => match firstA h size n x with
      | none => none
      | some new => some (n, new)

def appendEl (h : AHeap) (el : TypeId) (zeros : Bool) (s x : AV) : Option (AV × AHeap) :=
  match P.info? el with
  | none => none
  | some i => match zeroA P el with
    | none => none
    | some z => match lenSlice s with
      | none => none
      | some sLen => match appended h i.size z zeros x with
        | none => none
        | some (n, new) =>
          if 0 < i.size ∧ z.cells.length = i.size ∧ z.cells.all AV.one = true ∧ new.all AV.one = true ∧ new.length = n * i.size ∧ (zeros = true → Nat.ble (n * i.bytes) (2 ^ 48) = true) then
            match n with
            | 0 => appendNone h s
            | n + 1 => appendTo h el i.size i.bytes sLen (n + 1) s new
          else none

/-- An append: what is made, and the heap. -/
def appendA (h : AHeap) (sType : TypeId) (zeros : Bool) (s x : AV) : Option (AV × AHeap) :=
  match P.underlying sType with
  | none => none
  | some u => match u with
    | .slice el => appendEl P h el zeros s x
    | _ => none

def findA (eq : AV → AV → Option Bool) (k : AV) : List AEntry → Nat → Option (Option (Nat × AEntry))
  | [], _ => some none
  | e :: r, i => match eq k e.key with
    | none => none
    | some b => match b with
      | true => some (some (i, e))
      | false => findA eq k r (i + 1)

def keyFields (ck : TypeId → AV → Bool) (cs : List AV) : List Field → Bool
  | [] => true
  | f :: r => (if f.name ≠ "_" then (match partA P f.type cs f.offset with
    | none => false
    | some v => ck f.type v) else true) && keyFields ck cs r

def keyElems (ck : AV → Bool) (el : TypeId) (s : Nat) (cs : List AV) : Nat → Nat → Bool
  | 0, _ => true
  | n + 1, i => (match partA P el cs (i * s) with
    | none => false
    | some v => ck v) && keyElems ck el s cs n (i + 1)

def keyArr (ck : TypeId → AV → Bool) (n : Nat) (el : TypeId) (x : AV) : Bool := match x with
  | .agg cs => match sizeT P el with
    | none => false
    | some s => keyElems P (ck el) el s cs n 0
  | _ => false

def keyRec (ck : TypeId → AV → Bool) (fs : Array Field) (x : AV) : Bool := match x with
  | .agg cs => keyFields P ck cs fs.toList
  | _ => false

/-- Keys that need no look at what they hold: nothing in them is of an interface's type. -/
def keyOk : Nat → TypeId → AV → Bool
  | 0, _, _ => false
  | d + 1, t, x => match P.underlying t with
    | none => false
    | some u => match u with
      | .bool => true
      | .int _ => true
      | .string => true
      | .array n el => keyArr P (keyOk d) n el x
      | .struct fs => keyRec P (keyOk d) fs x
      | _ => false

def mapOf (t : TypeId) : Option (TypeId × TypeId) := match P.underlying t with
  | some (.map k e) => some (k, e)
  | _ => none

def entriesOf (h : AHeap) (m : AV) : Option (List AEntry) := match m with
  | .nilm => some []
  | .mp id => match h.get id with
    | some (.map es _) => some es
    | _ => none
  | _ => none

def findIn (h : AHeap) (kt : TypeId) (k m : AV) : Option (Option (Nat × AEntry)) :=
  if keyOk P 9 kt k = true then
    match entriesOf h m with
    | none => none
    | some es => findA (eqA P h 9 kt) k es 0
  else none

def putEntry (h : AHeap) (id : Nat) (k v : AV) (r : Option (Nat × AEntry)) : Option AHeap := match h.get id with
  | some (.map es clock) => match r with
    | some (i, e) => match sameAV 300 k e.key with
      | true => some (h.put id (.map (es.take i ++ { key := k, val := v, born := e.born } :: es.drop (i + 1)) clock))
      | false => none
    | none => some (h.put id (.map (es ++ [{ key := k, val := v, born := clock }]) (clock + 1)))
  | _ => none

def mapPutA (h : AHeap) (t : TypeId) (m k v : AV) : Option AHeap := match mapOf P t with
  | none => none
  | some (kt, _) => match m with
    | .mp id => match findIn P h kt k (.mp id) with
      | none => none
      | some r => putEntry h id k v r
    | _ => none

def bornAt (n : Nat) : List AEntry → Nat → Option Nat
  | [], _ => none
  | e :: r, i => match Nat.beq e.born n with
    | true => some i
    | false => bornAt n r (i + 1)

def entryNew (h : AHeap) (id : Nat) (k : AV) (z : Option AV) (es : List AEntry) (clock : Nat) : Option (AV × AHeap) := match z with
  | none => none
  | some z => some (.tup [z, .int .i64 (.ofNat clock)], h.put id (.map (es ++ [{ key := k, val := z, born := clock }]) (clock + 1)))

def entryAt (h : AHeap) (el : TypeId) (id : Nat) (k : AV) (r : Option (Nat × AEntry)) : Option (AV × AHeap) := match h.get id with
  | some (.map es clock) => match r with
    | some (_, e) => match sameAV 300 k e.key with
      | true => some (.tup [e.val, .int .i64 (.ofNat e.born)], h.put id (.map es clock))
      | false => none
    | none => entryNew h id k (zeroA P el) es clock
  | _ => none

/-- The entry of a key, made if there is none: its value and when it was born. -/
def mapEntryA (h : AHeap) (t : TypeId) (m k : AV) : Option (AV × AHeap) := match mapOf P t with
  | none => none
  | some (kt, el) => match m with
    | .mp id => match findIn P h kt k (.mp id) with
      | none => none
      | some r => entryAt P h el id k r
    | _ => none

def entryPut (h : AHeap) (id n : Nat) (v : AV) : Option AHeap := match h.get id with
  | some (.map es clock) => match bornAt n es 0 with
    | none => none
    | some i => match es[i]? with
      | none => none
      | some e => some (h.put id (.map (es.take i ++ { key := e.key, val := v, born := e.born } :: es.drop (i + 1)) clock))
  | _ => none

def entryStoreA (h : AHeap) (m s v : AV) : Option AHeap := match m with
  | .mp id => match s with
    | .int _ n => match n with
      | .ofNat n => entryPut h id n v
      | .negSucc _ => none
    | _ => none
  | _ => none

def okOf (ok : Bool) (v : AV) (b : Bool) : Option AV := match ok with
  | true => some (.tup [v, .bool b])
  | false => some v

def lookupA (h : AHeap) (t : TypeId) (m k : AV) (ok : Bool) : Option AV := match mapOf P t with
  | none => none
  | some (kt, el) => match findIn P h kt k m with
    | none => none
    | some (some (_, e)) => okOf ok e.val true
    | some none => match zeroA P el with
      | none => none
      | some z => okOf ok z false

def dropEntry (h : AHeap) (id : Nat) (r : Option (Nat × AEntry)) : Option AHeap := match h.get id with
  | some (.map es clock) => match r with
    | some (i, _) => some (h.put id (.map (es.take i ++ es.drop (i + 1)) clock))
    | none => some h
  | _ => none

def deleteA (h : AHeap) (t : TypeId) (m k : AV) : Option AHeap := match mapOf P t with
  | none => none
  | some (kt, _) => match findIn P h kt k m with
    | none => none
    | some r => match m with
      | .nilm => some h
      | .mp id => dropEntry h id r
      | _ => none

def failsA (asserted : TypeId) (ok : Bool) : Option AV := match ok with
  | false => none
  | true => match zeroA P asserted with
    | none => none
    | some z => some (.tup [z, .bool false])

/-- Does a method lack? -/
def missA (want : Array (String × TypeId)) (got : Array Method) : Bool := want.toList.any fun p => !(got.toList.any fun m => m.name == p.1 && m.sig == p.2)

def assertI (want : Array (String × TypeId)) (asserted : TypeId) (x : AV) (t : TypeId) (ok : Bool) : Option AV := match P.info? t with
  | none => none
  | some i => match missA want i.methods with
    | false => okOf ok x true
    | true => failsA P asserted ok

def assertA (x : AV) (asserted : TypeId) (ok : Bool) : Option AV := match P.underlying asserted with
  | none => none
  | some u => match x with
    | .nili => failsA P asserted ok
    | .ifc t v => match u with
      | .interface want => assertI P want asserted (.ifc t v) t ok
      | _ => if t = asserted then okOf ok v true else failsA P asserted ok
    | _ => none

def copyTo (h : AHeap) (n : Nat) (dst : AV) (cells : List AV) : Option (AV × AHeap) := match dst with
  | .nils _ _ => some (.int .i64 n, h)
  | .slc id ver off _ _ => match storeCellsA h id ver off cells with
    | none => none
    | some h => some (.int .i64 n, h)
  | .slg id ver off _ _ => match storeCellsA h id ver off cells with
    | none => none
    | some h => some (.int .i64 n, h)
  | _ => none

def copyEl (h : AHeap) (size : Option Nat) (dst src : AV) : Option (AV × AHeap) := match size with
  | none => none
  | some s => match lenSlice dst with
    | none => none
    | some dn => match countA src with
      | none => none
      | some sn => match firstA h s (Nat.min sn dn) src with
        | none => none
        | some cells => copyTo h (Nat.min sn dn) dst cells

def copyA (h : AHeap) (t : TypeId) (dst src : AV) : Option (AV × AHeap) := match P.underlying t with
  | none => none
  | some u => match u with
    | .slice el => copyEl h (sizeT P el) dst src
    | _ => none

def clearSl (h : AHeap) (z : Option AV) (id ver off n : Nat) : Option AHeap := match n with
  | 0 => some h
  | n + 1 => match z with
    | none => none
    | some z => storeCellsA h id ver off (repeatL z.cells (n + 1))

def clearMap (h : AHeap) (id : Nat) : Option AHeap := match h.get id with
  | some (.map _ clock) => some (h.put id (.map [] clock))
  | _ => none

def elemZero (t : TypeId) : Option AV := match P.underlying t with
  | some (.slice el) => zeroA P el
  | _ => none

def clearA (h : AHeap) (t : TypeId) (x : AV) : Option AHeap := match P.underlying t with
  | none => none
  | some _ => match x with
    | .nilm => some h
    | .nils _ _ => some h
    | .mp id => clearMap h id
    | .slc id ver off n _ => clearSl h (elemZero P t) id ver off n
    | .slg id ver off n _ => clearSl h (elemZero P t) id ver off n
    | _ => none

def makeSliceN (h : AHeap) (el : TypeId) (l c : Int) : Option (AV × AHeap) := match P.info? el with
  | none => none
  | some i => match zeroA P el with
    | none => none
    | some z =>
      if 0 ≤ l ∧ l ≤ c ∧ c < 2 ^ 40 ∧ i.bytes * c ≤ 2 ^ 48 ∧ z.cells.length = i.size ∧ 0 < i.size ∧ z.cells.all AV.one = true then
        some (.slc h.next 0 0 l.toNat c.toNat, newCells h el (repeatL z.cells c.toNat) false)
      else none

def makeSliceA (h : AHeap) (t : TypeId) (len cap : AV) : Option (AV × AHeap) := match P.underlying t with
  | some (.slice el) => match len with
    | .int _ l => match cap with
      | .int _ c => makeSliceN P h el l c
      | _ => none
    | _ => none
  | _ => none

def minA2 (mx : Bool) (a b : AV) : Option AV := match a with
  | .int k x => match b with
    | .int _ y => some (.int k (if (if mx then decide (y > x) else decide (y < x)) then y else x))
    | _ => none
  | _ => none

def foldA (f : AV → AV → Option AV) : AV → List AV → Option AV
  | x, [] => some x
  | x, y :: r => match f x y with
    | none => none
    | some z => foldA f z r

def unsafeAt (h : AHeap) (u : TypeId) (id ver off n : Nat) : Option (AV × AHeap) := match h.get id with
  | some (.cells c m el lo hi nv fz sg ex) => match extOf ex m hi ver with
    | none => none
    | some e =>
      if lo ≤ ver ∧ ver ≤ hi ∧ n ≤ e ∧ off = 0 ∧ el = u ∧ sg = false ∧ P.cellsOf el = 1 then
        match loadList c 0 n with
        | none => none
        | some l => match bytesA l with
          | none => none
          | some s => some (.str s, h.put id (.cells c m el lo hi nv (max fz n) sg ex))
      else none
  | _ => none

/-- unsafe.String of bytes that nobody writes any more. -/
def unsafeStrA (h : AHeap) (u : TypeId) (p n : AV) : Option (AV × AHeap) := match n with
  | .int .i64 n => match p with
    | .nilp => if n = 0 then some (.str [], h) else none
    | .ptr id ver off => if n = 0 then some (.str [], h) else if 0 < n ∧ n < 2 ^ 40 then unsafeAt P h u id ver off n.toNat else none
    | _ => none
  | _ => none

def recvOf (h : AHeap) (f : FuncId) (isPtr : Bool) (el : Option TypeId) (v : AV) : Option (FuncId × AV) := match el with
  | some el => match isPtr with
    | true => some (f, v)
    | false => match v with
      | .ptr id ver off => match loadA P h el (.ptr id ver off) with
        | none => none
        | some x => some (f, x)
      | _ => none
  | none => match isPtr with
    | true => none
    | false => some (f, v)

def hopTo (h : AHeap) (f : FuncId) (isPtr : Bool) (t : TypeId) (q : Option AV) : Option (FuncId × AV) := match q with
  | none => none
  | some q => match isPtr with
    | true => some (f, q)
    | false => match loadA P h t q with
      | none => none
      | some x => some (f, x)

/-- A method of what a struct behind a pointer embeds. -/
def hopA (h : AHeap) (f : FuncId) (isPtr : Bool) (s : FieldStep) (v : AV) : Option (FuncId × AV) := match s.deref with
  | false => none
  | true => match P.underlying s.struct with
    | some (.struct fs) => match fs[s.index]? with
      | none => none
      | some fl => match P.underlying fl.type with
        | none => none
        | some u => match u with
          | .pointer _ => none
          | _ => match v with
            | .ptr id ver o => hopTo P h f isPtr fl.type (fieldPtr (.ptr id ver o) fl.offset (sizeT P fl.type))
            | _ => none
    | _ => none

/-- Which function a method of a value is, and its receiver. -/
def methodA (h : AHeap) (t : TypeId) (v : AV) (name : String) : Option (FuncId × AV) := match P.info? t with
  | none => none
  | some i => match i.methods.find? (·.name == name) with
    | none => none
    | some m => match m.path.toList with
      | [] => match m.func with
        | none => none
        | some (f, p) => match P.underlying t with
          | none => none
          | some _ => recvOf P h f p (isPtrT P t) v
      | s :: rest => match rest with
        | _ :: _ => none
        | [] => match m.func with
          | none => none
          | some (f, p) => hopA P h f p s v

def extNoEscape (h : AHeap) (args : List AV) : Option AR := match args with
  | [x] => some (.val x h)
  | _ => none

def extCmp (h : AHeap) (args : List AV) : Option AR := match args with
  | [.str a, .str b] => some (.val (.int .i64 (Lib.compareBytes a b)) h)
  | _ => none

def extIndexByte (h : AHeap) (args : List AV) : Option AR := match args with
  | [.str s, .int .u8 c] => some (.val (.int .i64 (Lib.indexByte s c.toNat.toUInt8)) h)
  | _ => none

def extCount (h : AHeap) (args : List AV) : Option AR := match args with
  | [.str s, .int .u8 c] => some (.val (.int .i64 (Lib.countByte s c.toNat.toUInt8)) h)
  | _ => none

/-- Bytes of which nothing is told. -/
def extMakeNoZero (h : AHeap) (res : Option TypeId) (args : List AV) : Option AR := match res with
  | none => none
  | some t => match P.underlying t with
    | some (.slice el) => match args with
      | [.int .i64 n] => if 0 ≤ n ∧ n < 2 ^ 40 ∧ P.cellsOf el = 1 then
          some (.val (.slg h.next 0 0 n.toNat 0) (h.new (.cells .leaf n.toNat el 0 0 1 0 false .leaf)))
        else none
      | _ => none
    | _ => none

/-- The type of a type's handle. -/
def rtypeId : Option TypeId := match P.cutTypes.find? (·.1 == "internal/reflectlite.rtype") with
  | none => none
  | some c => some c.2

/-- The handle of a value's type. -/
def extTypeOf (h : AHeap) (args : List AV) : Option AR := match args with
  | [.ifc t _] => match rtypeId P with
    | none => none
    | some r => some (.val (.ifc r (.agg [.gp P.globals.size t])) h)
  | _ => none

def extComparable (h : AHeap) (args : List AV) : Option AR := match args with
  | [.agg [.gp g t]] => if g = P.globals.size ∧ P.packed t = false ∧ P.holdsPacked P.depth t = false then
      match P.info? t with
      | none => none
      | some i => some (.val (.bool i.comparable) h)
    else none
  | _ => none

/-- The integer at a place. -/
def intIn (v : AV) : Option (IntKind × Int) := match v with
  | .int k n => some (k, n)
  | _ => none
def intIns (l : Option (List AV)) : Option (IntKind × Int) := match l with
  | some l => match l with
    | [v] => intIn v
    | _ => none
  | none => none
def intAt (h : AHeap) (x : AV) : Option (IntKind × Int) := match x with
  | .ptr id ver off => intIns (loadCellsA h id ver off 1)
  | _ => none

def setAt (h : AHeap) (x v : AV) : Option AHeap := match x with
  | .ptr id ver off => storeCellsA h id ver off [v]
  | _ => none

def extLoad (k : IntKind) (h : AHeap) (args : List AV) : Option AR := match args with
  | [x] => match intAt h x with
    | some (k', n) => if k' = k then some (.val (.int k n) h) else none
    | none => none
  | _ => none

def extSet (k : IntKind) (h : AHeap) (x : AV) (n : Int) (v : AV) : Option AR := match setAt h x (.int k n) with
  | none => none
  | some h => some (.val v h)

def extStore (k : IntKind) (h : AHeap) (args : List AV) : Option AR := match args with
  | [x, .int k' n] => match intAt h x with
    | some _ => if k' = k then extSet k h x n (.tup []) else none
    | none => none
  | _ => none

def extCas (k : IntKind) (h : AHeap) (args : List AV) : Option AR := match args with
  | [x, .int _ o, .int k' n] => match intAt h x with
    | some (k1, m) => if k1 = k ∧ k' = k ∧ m = o then extSet k h x n (.bool true) else none
    | none => none
  | _ => none

def extAdd (k : IntKind) (h : AHeap) (args : List AV) : Option AR := match args with
  | [x, .int _ d] => match intAt h x with
    | some (k1, m) => if k1 = k then extSet k h x (k.wrap (m + d)) (.int k (k.wrap (m + d))) else none
    | none => none
  | _ => none

def extMarkAt (h : AHeap) (args : List AV) : Option AR := match args with
  | [.ptr _ _ _] => some (.val (.tup []) h)
  | _ => none
def extMark (h : AHeap) (args : List AV) : Option AR := match args with
  | [] => some (.val (.tup []) h)
  | _ => none

/-- What one goroutine asks of other ones: nothing of it is seen. -/
def extMore (h : AHeap) (name : String) (args : List AV) : Option AR := match name == "sync/atomic.LoadUint32" with
  | true => extLoad .u32 h args
  | false => match name == "sync/atomic.StoreUint32" with
    | true => extStore .u32 h args
    | false => match name == "sync/atomic.CompareAndSwapInt32" with
      | true => extCas .i32 h args
      | false => match name == "sync/atomic.AddInt32" with
        | true => extAdd .i32 h args
        | false => match name == "internal/race.Acquire" with
          | true => extMarkAt h args
          | false => match name == "internal/race.ReleaseMerge" with
            | true => extMarkAt h args
            | false => match name == "internal/race.Disable" with
              | true => extMark h args
              | false => match name == "internal/race.Enable" with
                | true => extMark h args
                | false => none

/-- What the model stands in for. -/
def externA (h : AHeap) (fn : Func) (args : List AV) : Option AR := match fn.origin == "" with
  | false => none
  | true => match fn.name == "internal/abi.NoEscape" with
    | true => extNoEscape h args
    | false => match fn.name == "internal/bytealg.abigen_runtime_cmpstring" with
      | true => extCmp h args
      | false => match fn.name == "internal/bytealg.IndexByteString" with
        | true => extIndexByte h args
        | false => match fn.name == "internal/bytealg.CountString" with
          | true => extCount h args
          | false => match fn.name == "internal/bytealg.MakeNoZero" with
            | true => extMakeNoZero P h fn.resultTypes[0]? args
            | false => match fn.name == "internal/reflectlite.TypeOf" with
              | true => extTypeOf P h args
              | false => match fn.name == "(internal/reflectlite.rtype).Comparable" with
                | true => extComparable P h args
                | false => extMore h fn.name args

/-- A call of a function: entered, or what the model stands in for. -/
def callA (h : AHeap) (f : FuncId) (args : List AV) : Option AR := match P.funcs[f]? with
  | none => none
  | some fn => match fn.body with
    | some _ => if fn.name == "runtime.NumGoroutine" then none else some (.enter f args h)
    | none => externA P h fn args

def callMethodA (h : AHeap) (x : AV) (name : String) (args : List AV) : Option AR := match x with
  | .ifc t v => match methodA P h t v name with
    | none => none
    | some (f, r) => callA P h f (r :: args)
  | _ => none

def asIfaceA (t : TypeId) (x : AV) : Option AV := match P.underlying t with
  | none => none
  | some u => match u with
    | .interface _ => some x
    | _ => some (.ifc t x)

def invokeFnA (h : AHeap) (f : Fn) (args captured : List AV) : Option AR := match f with
  | .func f => callA P h f (args ++ captured)
  | .method name => match args with
    | [] => none
    | x :: r => callMethodA P h x name r
  | .methodOf t name => match args with
    | [] => none
    | x :: r => match asIfaceA P t x with
      | none => none
      | some y => callMethodA P h y name r
  | _ => none

def valE (h : AHeap) (v : Option AV) : Option AR := match v with
  | none => none
  | some v => some (.val v h)
def valH (r : Option (AV × AHeap)) : Option AR := match r with
  | none => none
  | some (v, h) => some (.val v h)
def skipH (r : Option AHeap) : Option AR := match r with
  | none => none
  | some h => some (.skip h)
def unitH (r : Option AHeap) : Option AR := match r with
  | none => none
  | some h => some (.val (.tup []) h)

def sliceData (x : AV) : Option AV := match x with
  | .nils _ _ => some .nilp
  | .slc id ver off _ c => match c with
    | 0 => none
    | _ + 1 => some (.ptr id ver off)
  | .slg id ver off l _ => match l with
    | 0 => none
    | _ + 1 => some (.ptr id ver off)
  | _ => none

def capA (x : AV) : Option AV := match x with
  | .slc _ _ _ _ c => some (.int .i64 c)
  | .nils _ c => some (.int .i64 c)
  | _ => none
def isSliceT (t : TypeId) : Bool := match P.underlying t with
  | some (.slice _) => true
  | _ => false
def isIntT (t : TypeId) : Option Bool := match P.underlying t with
  | none => none
  | some u => match u with
    | .int _ => some true
    | _ => some false

def lenE (h : AHeap) (t : TypeId) (x : AV) : Option AV := match lenA P h t x with
  | none => none
  | some n => some (.int .i64 n)
def capE (t : TypeId) (x : AV) : Option AV := match isSliceT P t with
  | true => capA x
  | false => none

def one1 (l : List AV) : Option AV := match l with
  | [x] => some x
  | _ => none
def two1 (l : List AV) : Option (AV × AV) := match l with
  | [x, y] => some (x, y)
  | _ => none

def foldE (mx : Bool) (l : List AV) : Option AV := match l with
  | [] => none
  | x :: r => foldA (minA2 mx) x r

/-- Builtins that make nothing. -/
def builtinR (h : AHeap) (b : Builtin) (t : Option TypeId) (args : List AV) : Option AV := match b with
  | .len => match t with
    | none => none
    | some t => match one1 args with
      | none => none
      | some x => lenE P h t x
  | .cap => match t with
    | none => none
    | some t => match one1 args with
      | none => none
      | some x => capE P t x
  | .max => foldE true args
  | .min => foldE false args
  | .unsafeSliceData => match one1 args with
    | none => none
    | some x => sliceData x
  | _ => none

def isBuiltinR : Builtin → Bool
  | .len | .cap | .max | .min | .unsafeSliceData => true
  | _ => false

def appendE (h : AHeap) (t u : Option TypeId) (args : List AV) : Option AR := match t with
  | none => none
  | some t => match u with
    | none => none
    | some u => match isIntT P u with
      | none => none
      | some z => match two1 args with
        | none => none
        | some (s, x) => valH (appendA P h t z s x)

def copyE (h : AHeap) (t : TypeId) (args : List AV) : Option AR := match two1 args with
  | none => none
  | some (d, s) => valH (copyA P h t d s)
def clearE (h : AHeap) (t : TypeId) (args : List AV) : Option AR := match one1 args with
  | none => none
  | some x => unitH (clearA P h t x)
def deleteE (h : AHeap) (t : TypeId) (args : List AV) : Option AR := match two1 args with
  | none => none
  | some (m, k) => unitH (deleteA P h t m k)
def unsafeE (h : AHeap) (t : TypeId) (args : List AV) : Option AR := match isPtrT P t with
  | none => none
  | some el => match isByteT P el with
    | false => none
    | true => match two1 args with
      | none => none
      | some (p, n) => valH (unsafeStrA P h el p n)

def builtinE (h : AHeap) (b : Builtin) (t u : Option TypeId) (args : List AV) : Option AR := match b with
  | .append => appendE P h t u args
  | .recover => match args with
    | [] => some .recover
    | _ => none
  | b => match t with
    | none => none
    | some t => match b with
      | .copy => copyE P h t args
      | .clear => clearE P h t args
      | .delete => deleteE P h t args
      | .unsafeString => unsafeE P h t args
      | _ => none

def builtinA (h : AHeap) (b : Builtin) (argTypes : Array TypeId) (args : List AV) : Option AR := match isBuiltinR b with
  | true => valE h (builtinR P h b argTypes[0]? args)
  | false => builtinE P h b argTypes[0]? argTypes[1]? args

def callV (h : AHeap) (f : AV) (args : List AV) : Option AR := match f with
  | .fn f first cap => invokeFnA P h f (first ++ args) cap
  | .yld id => some (.round id args)
  | _ => none

def callOpA (ρ : Operand → Option AV) (h : AHeap) (c : Call) : Option AR := match mapO ρ c.args.toList with
  | none => none
  | some args => match c.callee with
    | .builtin b => builtinA P h b c.argTypes args
    | .invoke r name => match ρ r with
      | none => none
      | some x => callMethodA P h x name args
    | .value f => match ρ f with
      | none => none
      | some f => callV P h f args

def deferA (ρ : Operand → Option AV) (c : Call) : Option AR := match mapO ρ c.args.toList with
  | none => none
  | some args => match c.callee with
    | .value f => match ρ f with
      | some (.fn f first cap) => some (.dfr { tgt := .fn f cap, args := first ++ args })
      | _ => none
    | .invoke r name => match ρ r with
      | none => none
      | some x => some (.dfr { tgt := .fn (.method name) [], args := x :: args })
    | _ => none

def optEv (ρ : Operand → Option AV) (o : Option Operand) : Option (Option Int) := match o with
  | none => some none
  | some x => match ρ x with
    | some (.int _ n) => some (some n)
    | _ => none

def pickA (ρ : Operand → Option AV) (c : Option AV) (a b : Operand) : Option AV := match c with
  | some (.bool t) => match t with
    | true => ρ a
    | false => ρ b
  | _ => none

def partsA (ρ : Operand → Option AV) (l : List (Nat × Operand)) : Option (List (Nat × AV)) := mapO (fun p => match ρ p.2 with
  | none => none
  | some v => some (p.1, v)) l

def nilCheckA (x : AV) : Option AV := match x with
  | .ptr id ver off => some (.ptr id ver off)
  | .gp g off => some (.gp g off)
  | .fn f fs cs => match f with
    | .func f => some (.fn (.func f) fs cs)
    | _ => none
  | .ifc t v => some (.ifc t v)
  | .yld id => some (.yld id)
  | _ => none

def mkIfaceA (t : TypeId) (v : AV) : Option AV := match P.underlying t with
  | none => none
  | some u => match u with
    | .interface _ => none
    | _ => some (.ifc t v)

def mkFuncA (ρ : Operand → Option AV) (f : Fn) (first cap : Array Operand) : Option AV := match f with
  | .yield _ => none
  | f => match mapO ρ first.toList with
    | none => none
    | some fs => match mapO ρ cap.toList with
      | none => none
      | some cs => some (.fn f fs cs)

def extractA (x : Option AV) (i : Nat) : Option AV := match x with
  | some (.tup vs) => vs[i]?
  | _ => none

def sliceOp (ρ : Operand → Option AV) (h : AHeap) (t : TypeId) (x : Operand) (lo hi mx : Option Operand) : Option AV := match ρ x with
  | none => none
  | some v => match optEv ρ lo with
    | none => none
    | some l => match optEv ρ hi with
      | none => none
      | some hh => match optEv ρ mx with
        | none => none
        | some m => sliceH P h t v l hh m

def two (ρ : Operand → Option AV) (x y : Operand) (f : AV → AV → Option AR) : Option AR := match ρ x with
  | none => none
  | some a => match ρ y with
    | none => none
    | some b => f a b
def one' (ρ : Operand → Option AV) (x : Operand) (f : AV → Option AR) : Option AR := match ρ x with
  | none => none
  | some a => f a

def allocA (h : AHeap) (t : TypeId) (z : Option AV) : Option AR := match z with
  | none => none
  | some z => valH (boxA P h t z)

def mkMapA (ρ : Operand → Option AV) (h : AHeap) (t : TypeId) (r : Option Operand) : Option AR := match r with
  | none => some (.val (.mp h.next) (h.new (.map [] 0)))
  | some x => match ρ x with
    | some (.int _ _) => match mapOf P t with
      | none => none
      | some _ => some (.val (.mp h.next) (h.new (.map [] 0)))
    | _ => none

def rangeA (h : AHeap) (t : TypeId) (x : AV) : Option AR := match x with
  | .str s => match P.underlying t with
    | some .string => some (.val (.ptr h.next 0 0) (h.new (.iter s 0)))
    | _ => none
  | _ => none

def nextAt (h : AHeap) (id : Nat) (o : Option AObj) : Option AR := match o with
  | some (.iter s pos) =>
    if pos < s.length then
      let r := Utf8.decode ⟨s.toArray⟩ pos
      some (.val (.tup [.bool true, .int .i64 pos, .int .i32 r.1]) (h.put id (.iter s (pos + r.2))))
    else some (.val (.tup [.bool false]) h)
  | _ => none

def nextA (h : AHeap) (x : AV) (isString : Bool) : Option AR := match isString with
  | false => none
  | true => match x with
    | .ptr id ver off => match ver with
      | 0 => match off with
        | 0 => nextAt h id (h.get id)
        | _ + 1 => none
      | _ + 1 => none
    | _ => none

def panicA (x : AV) : Option AR := match x with
  | .ifc t v => some (.panic (.ifc t v))
  | _ => none

def buildSliceE (h : AHeap) (t : TypeId) (n : Nat) (l : Option (List (Nat × AV))) : Option AR := match l with
  | none => none
  | some l => valH (buildSliceA P h t n l)

def buildE (h : AHeap) (t : TypeId) (l : Option (List (Nat × AV))) : Option AR := match l with
  | none => none
  | some l => valE h (buildA P t l)

def mapPutE (ρ : Operand → Option AV) (h : AHeap) (t : TypeId) (m k v : Operand) : Option AR := match ρ m with
  | none => none
  | some a => match ρ k with
    | none => none
    | some b => match ρ v with
      | none => none
      | some c => skipH (mapPutA P h t a b c)

def entryPutE (ρ : Operand → Option AV) (h : AHeap) (m s v : Operand) : Option AR := match ρ m with
  | none => none
  | some a => match ρ s with
    | none => none
    | some b => match ρ v with
      | none => none
      | some c => skipH (entryStoreA h a b c)

def convE (h : AHeap) (s d : TypeId) (x : AV) : Option AR := match isSliceT P d with
  | true => valH (convNewA P h s d x)
  | false => valE h (convA P h s d x)

end

/-! ### One handler for each operation: a dispatch that copies little -/

def op_move (_ : Program) (x : Operand) (ρ : Operand → Option AV) (h : AHeap) : Option AR := valE h (ρ x)
def op_assign (_ : Program) (x : Operand) (ρ : Operand → Option AV) (h : AHeap) : Option AR := valE h (ρ x)
def op_pick (_ : Program) (c a b : Operand) (ρ : Operand → Option AV) (h : AHeap) : Option AR := valE h (pickA ρ (ρ c) a b)
def op_alloc (P : Program) (t : TypeId) (_ : Operand → Option AV) (h : AHeap) : Option AR := allocA P h t (zeroA P t)
def op_box (P : Program) (t : TypeId) (x : Operand) (ρ : Operand → Option AV) (h : AHeap) : Option AR := one' ρ x fun v => valH (boxA P h t v)
def op_build (P : Program) (t : TypeId) (parts : Array (Nat × Operand)) (ρ : Operand → Option AV) (h : AHeap) : Option AR := buildE P h t (partsA ρ parts.toList)
def op_buildSlice (P : Program) (t : TypeId) (n : Nat) (parts : Array (Nat × Operand)) (ρ : Operand → Option AV) (h : AHeap) : Option AR := buildSliceE P h t n (partsA ρ parts.toList)
def op_insert (P : Program) (t : TypeId) (m k v : Operand) (ρ : Operand → Option AV) (h : AHeap) : Option AR := mapPutE P ρ h t m k v
def op_load (P : Program) (t : TypeId) (a : Operand) (ρ : Operand → Option AV) (h : AHeap) : Option AR := one' ρ a fun p => valE h (loadA P h t p)
def op_store (P : Program) (t : TypeId) (a x : Operand) (ρ : Operand → Option AV) (h : AHeap) : Option AR := two ρ a x fun p v => skipH (storeA P h t p v)
def op_ready (_ : Program) (_ : Nat) (_ : Operand → Option AV) (_ : AHeap) : Option AR := none
def op_waits (_ : Program) (_ : Nat) (_ : Operand → Option AV) (_ : AHeap) : Option AR := none
def op_nilCheck (_ : Program) (x : Operand) (ρ : Operand → Option AV) (h : AHeap) : Option AR := one' ρ x fun v => valE h (nilCheckA v)
def op_binOp (P : Program) (op : BinOp) (t : TypeId) (x y : Operand) (_ : TypeId) (ρ : Operand → Option AV) (h : AHeap) : Option AR := two ρ x y fun a b => valE h (binA P h op t (isConstO x || isConstO y) a b)
def op_unOp (_ : Program) (op : UnOp) (_ : TypeId) (x : Operand) (ρ : Operand → Option AV) (h : AHeap) : Option AR := one' ρ x fun v => valE h (unA op v)
def op_convert (P : Program) (s d : TypeId) (x : Operand) (ρ : Operand → Option AV) (h : AHeap) : Option AR := one' ρ x fun v => convE P h s d v
def op_sliceToArrayPointer (_ : Program) (_ : TypeId) (_ : Operand) (_ : Operand → Option AV) (_ : AHeap) : Option AR := none
def op_makeInterface (P : Program) (t : TypeId) (x : Operand) (ρ : Operand → Option AV) (h : AHeap) : Option AR := one' ρ x fun v => valE h (mkIfaceA P t v)
def op_makeFunc (_ : Program) (f : Fn) (first cap : Array Operand) (ρ : Operand → Option AV) (h : AHeap) : Option AR := valE h (mkFuncA ρ f first cap)
def op_makeMap (P : Program) (t : TypeId) (r : Option Operand) (ρ : Operand → Option AV) (h : AHeap) : Option AR := mkMapA P ρ h t r
def op_makeChan (_ : Program) (_ : TypeId) (_ : Operand) (_ : Operand → Option AV) (_ : AHeap) : Option AR := none
def op_makeSlice (P : Program) (t : TypeId) (l c : Operand) (ρ : Operand → Option AV) (h : AHeap) : Option AR := two ρ l c fun a b => valH (makeSliceA P h t a b)
def op_slice (P : Program) (t : TypeId) (x : Operand) (lo hi mx : Option Operand) (ρ : Operand → Option AV) (h : AHeap) : Option AR := valE h (sliceOp P ρ h t x lo hi mx)
def op_fieldAddr (P : Program) (s : TypeId) (x : Operand) (f : Nat) (ρ : Operand → Option AV) (h : AHeap) : Option AR := one' ρ x fun v => valE h (fieldAddrA P s v f)
def op_field (P : Program) (t : TypeId) (x : Operand) (f : Nat) (ρ : Operand → Option AV) (h : AHeap) : Option AR := one' ρ x fun v => valE h (fieldA P t v f)
def op_indexAddr (P : Program) (t : TypeId) (x ix : Operand) (ρ : Operand → Option AV) (h : AHeap) : Option AR := two ρ x ix fun v i => valE h (indexAddrA P t v i)
def op_index (P : Program) (t : TypeId) (x ix : Operand) (ρ : Operand → Option AV) (h : AHeap) : Option AR := two ρ x ix fun v i => valE h (indexA P t v i)
def op_lookup (P : Program) (t : TypeId) (m k : Operand) (ok : Bool) (ρ : Operand → Option AV) (h : AHeap) : Option AR := two ρ m k fun a b => valE h (lookupA P h t a b ok)
def op_mapUpdate (P : Program) (t : TypeId) (m k v : Operand) (ρ : Operand → Option AV) (h : AHeap) : Option AR := mapPutE P ρ h t m k v
def op_mapEntry (P : Program) (t : TypeId) (m k : Operand) (ρ : Operand → Option AV) (h : AHeap) : Option AR := two ρ m k fun a b => valH (mapEntryA P h t a b)
def op_entryStore (_ : Program) (_ : TypeId) (m s x : Operand) (ρ : Operand → Option AV) (h : AHeap) : Option AR := entryPutE ρ h m s x
def op_range (P : Program) (t : TypeId) (x : Operand) (ρ : Operand → Option AV) (h : AHeap) : Option AR := one' ρ x fun v => rangeA P h t v
def op_next (_ : Program) (it : Operand) (isString : Bool) (ρ : Operand → Option AV) (h : AHeap) : Option AR := one' ρ it fun v => nextA h v isString
def op_entry (_ : Program) (_ : Operand) (_ : Operand → Option AV) (_ : AHeap) : Option AR := none
def op_typeAssert (P : Program) (x : Operand) (_ t : TypeId) (ok : Bool) (ρ : Operand → Option AV) (h : AHeap) : Option AR := one' ρ x fun v => valE h (assertA P v t ok)
def op_extract (_ : Program) (x : Operand) (i : Nat) (ρ : Operand → Option AV) (h : AHeap) : Option AR := valE h (extractA (ρ x) i)
def op_call (P : Program) (c : Call) (ρ : Operand → Option AV) (h : AHeap) : Option AR := callOpA P ρ h c
def op_go (_ : Program) (_ : Call) (_ : Operand → Option AV) (_ : AHeap) : Option AR := none
def op_defer (_ : Program) (c : Call) (ρ : Operand → Option AV) (_ : AHeap) : Option AR := deferA ρ c
def op_panic (_ : Program) (x : Operand) (ρ : Operand → Option AV) (_ : AHeap) : Option AR := one' ρ x panicA
def op_send (_ : Program) (_ _ : Operand) (_ : Operand → Option AV) (_ : AHeap) : Option AR := none
def op_recv (_ : Program) (_ : TypeId) (_ : Operand) (_ : Bool) (_ : Operand → Option AV) (_ : AHeap) : Option AR := none
def op_select (_ : Program) (_ : Array SelectCase) (_ : Bool) (_ : Operand → Option AV) (_ : AHeap) : Option AR := none

/-- An operation. -/
def opA (P : Program) (ρ : Operand → Option AV) (h : AHeap) (o : Op) : Option AR :=
  Op.rec (motive := fun _ => (Operand → Option AV) → AHeap → Option AR)
    (op_move P) (op_assign P) (op_pick P) (op_alloc P) (op_box P) (op_build P) (op_buildSlice P) (op_insert P) (op_load P) (op_store P) (op_ready P) (op_waits P) (op_nilCheck P) (op_binOp P) (op_unOp P) (op_convert P) (op_sliceToArrayPointer P) (op_makeInterface P) (op_makeFunc P) (op_makeMap P) (op_makeChan P) (op_makeSlice P) (op_slice P) (op_fieldAddr P) (op_field P) (op_indexAddr P) (op_index P) (op_lookup P) (op_mapUpdate P) (op_mapEntry P) (op_entryStore P) (op_range P) (op_next P) (op_entry P) (op_typeAssert P) (op_extract P) (op_call P) (op_go P) (op_defer P) (op_panic P) (op_send P) (op_recv P) (op_select P)
    o ρ h

section
variable (P : Program)

/-- What reads without making anything. -/
def readA (ρ : Operand → Option AV) (h : AHeap) (o : Op) : Option AV := match opA P ρ h o with
  | some (.val v _) => some v
  | _ => none

def isPure : Op → Bool
  | .move _ | .assign _ | .pick .. | .build .. | .nilCheck _ | .unOp .. | .makeInterface .. | .makeFunc .. | .fieldAddr .. | .field ..
  | .indexAddr .. | .index .. | .typeAssert .. | .extract .. => true
  | _ => false

def isRead : Op → Bool
  | .load .. | .binOp .. | .lookup .. | .slice .. => true
  | .convert _ d _ => !(isSliceT P d)
  | .call c => match c.callee with
    | .builtin b => isBuiltinR b
    | _ => false
  | _ => false

end

end

end Go.Proofs.Ytcdpmiebmhjmpaa.Ev
