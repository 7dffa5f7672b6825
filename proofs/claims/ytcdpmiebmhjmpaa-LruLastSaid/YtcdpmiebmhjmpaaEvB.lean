/- The evaluator's machine: frames, regions in whatever order, calls, deferred calls, panics, ranges over functions. -/
import Derived.Test.YtcdpmiebmhjmpaaEvA
namespace Go.Proofs.Ytcdpmiebmhjmpaa.Ev
open Go
noncomputable section

/-! ## Regions whose order is drawn -/

section
variable (P : Program)

/-- What only makes memory, out of what it is handed. -/
def isFloat (op : Op) : Bool := match op with
  | .alloc _ | .box .. | .buildSlice .. | .makeSlice .. => true
  | .makeMap _ none => true
  | _ => false

/-- What acts: it must come in its turn. -/
def isEff (o : Oper) : Bool := match o.op with
  | .assign _ => true
  | op => !(isPure op || isRead P op || isFloat op)

def subMask (a b : Nat) : Bool := Nat.beq (Nat.land a b) a

/-- Of each operation, all that come ahead of it, as a mask. -/
def ancOf (anc : List Nat) (o : Oper) : Nat :=
  o.after.toList.foldl (fun s e => if Region.binds .any e then Nat.lor s (Nat.lor (2 ^ e.on) (anc.getD e.on 0)) else s) 0

def ancsGo : List Oper → List Nat → List Nat
  | [], acc => acc
  | o :: r, acc => ancsGo r (acc ++ [ancOf acc o])

def ancs (ops : List Oper) : List Nat := ancsGo ops []

def effMaskGo : List Oper → Nat → Nat
  | [], _ => 0
  | o :: r, i => if isEff P o then Nat.lor (2 ^ i) (effMaskGo r (i + 1)) else effMaskGo r (i + 1)

def pick1 (anc : List Nat) (done : Nat) (want : Nat → Bool) : List Nat → Option Nat
  | [] => none
  | i :: r => if want i && subMask (anc.getD i 0) done then some i else pick1 anc done want r

/-- What acts not comes as soon as it may. -/
def canonGo (anc : List Nat) (em : Nat) : Nat → List Nat → Nat → List Nat
  | 0, _, _ => []
  | f + 1, left, done =>
    match pick1 anc done (fun i => !em.testBit i) left with
    | some i => i :: canonGo anc em f (left.filter (fun j => !(Nat.beq j i))) (Nat.lor done (2 ^ i))
    | none => match pick1 anc done (fun i => em.testBit i) left with
      | some i => i :: canonGo anc em f (left.filter (fun j => !(Nat.beq j i))) (Nat.lor done (2 ^ i))
      | none => []

def mentions (ops : List Oper) (o : Oper) : List Nat :=
  o.op.operands.toList.filterMap (fun | .tmp t => some t | _ => none) ++
    (match o.guard with
      | some (g, _) => match ops[g]? with
        | some q => q.dst.toList
        | none => []
      | none => [])

/-- Slots: no operation writes what another one, that is not ordered with it, reads or writes. -/
def slotsOk (ops : List Oper) (anc : List Nat) (i : Nat) (o : Oper) (j : Nat) (q : Oper) : Bool :=
  match o.dst with
  | none => true
  | some t =>
    if Nat.beq i j then isEff P o || !((mentions ops o).contains t)
    else if isEff P o then
      (if (mentions ops q).contains t || q.dst == some t then (anc.getD j 0).testBit i || (anc.getD i 0).testBit j else true)
    else
      !(q.dst == some t) && (if (mentions ops q).contains t then (anc.getD j 0).testBit i else true)

def allIdx {α : Type} (f : Nat → α → Bool) : List α → Nat → Bool
  | [], _ => true
  | a :: r, i => f i a && allIdx f r (i + 1)

/-- May p come ahead of j, which acts, where 'done' is done? -/
def behind (anc : List Nat) (em done j p : Nat) : Bool :=
  em.testBit p || done.testBit p || (anc.getD p 0).testBit j || !(subMask (Nat.land (anc.getD p 0) em) done)

/-- The order goes by the edges; what acts is a chain; what does not comes as soon as it may. -/
def orderOk (ops : List Oper) (anc : List Nat) (em : Nat) : List Nat → Nat → Bool
  | [], done => Nat.beq done (Nat.sub (Nat.pow 2 ops.length) 1)
  | j :: r, done =>
    Nat.blt j ops.length && !done.testBit j && subMask (anc.getD j 0) done &&
    (if em.testBit j then subMask (Nat.land em done) (anc.getD j 0) && allIdx (fun p _ => behind anc em done j p) ops 0 else true) &&
    orderOk ops anc em r (Nat.lor done (2 ^ j))

structure Plan where
  anc : List Nat
  em : Nat
  ord : List Nat

def planOf (ops : List Oper) : Plan :=
  let anc := ancs ops
  let em := effMaskGo P ops 0
  { anc, em, ord := canonGo anc em ops.length (List.range ops.length) 0 }

def guardsOk (ops : List Oper) (anc : List Nat) : Bool :=
  allIdx (fun j o => match o.guard with
    | none => true
    | some (g, _) => (anc.getD j 0).testBit g) ops 0

def planOk (ops : List Oper) (pl : Plan) : Bool :=
  Nat.beq pl.ord.length ops.length &&
  allIdx (fun j o => Nat.beq (pl.anc.getD j 0) (ancOf pl.anc o)) ops 0 &&
  allIdx (fun j o => pl.em.testBit j == isEff P o) ops 0 &&
  orderOk ops pl.anc pl.em pl.ord 0 &&
  guardsOk ops pl.anc &&
  allIdx (fun i o => allIdx (fun j q => slotsOk P ops pl.anc i o j q) ops 0) ops 0

end

/-! ## Frames -/

inductive AItem where
  | code (c : Code)
  | inBlock (id : Nat)
  | inLoop (body : Code)
  | inScope (body : Code)
  | ops (all : List Oper) (l : List Oper)
  | drw (all : Array Oper) (todo dn : List Nat)
  | inRange (id : Nat)
  | endRange (id : Nat)
  | beginRound

inductive AMode where
  | run
  | returning
  | panicking (chain : List (AV × Bool))

structure AFrame where
  fn : FuncId
  n : Nat
  tmps : T AV
  todo : List AItem
  defers : List ADef
  mode : AMode
  kind : CallKind
  round : Option Nat

structure AM where
  top : AFrame
  rest : List AFrame
  heap : AHeap

def AFrame.withTodo (fr : AFrame) (k : List AItem) : AFrame := match fr with
  | ⟨fn, n, t, _, ds, mode, kind, round⟩ => ⟨fn, n, t, k, ds, mode, kind, round⟩
def AFrame.withMode (fr : AFrame) (m : AMode) : AFrame := match fr with
  | ⟨fn, n, t, todo, ds, _, kind, round⟩ => ⟨fn, n, t, todo, ds, m, kind, round⟩
def AFrame.withDefers (fr : AFrame) (ds : List ADef) : AFrame := match fr with
  | ⟨fn, n, t, todo, _, mode, kind, round⟩ => ⟨fn, n, t, todo, ds, mode, kind, round⟩

/-- A value into a slot (none: no such slot). -/
def putT (t : T AV) (n : Nat) (dst : Option Nat) (v : AV) : Option (T AV) := match dst with
  | none => some t
  | some d => match Nat.blt d n with
    | true => some (t.set (some v) d)
    | false => none

def asBoolA (v : Option AV) : Option (Option Bool) := match v with
  | some (.bool b) => some (some b)
  | some (.tup l) => match l with
    | [] => some none
    | _ :: _ => none
  | _ => none

def eqBool (a b : Bool) : Bool := match a with
  | true => b
  | false => !b

def wantIt (want : Bool) (v : Option (Option Bool)) : Option Bool := match v with
  | none => none
  | some v => match v with
    | none => some false
    | some b => some (eqBool b want)

def slotOf (t : T AV) (d : Option Nat) : Option AV := match d with
  | none => none
  | some d => t.get d

def dstOf (o : Option Oper) : Option Nat := match o with
  | none => none
  | some o => o.dst

/-- Is an operation wanted? (none: it can't be told.) -/
def wantedA (ops : List Oper) (t : T AV) (g : Option (Nat × Bool)) : Option Bool := match g with
  | none => some true
  | some (j, want) => wantIt want (asBoolA (slotOf t (dstOf ops[j]?)))

section
variable (P : Program)

def sameO (u v : Option AV) : Bool := match u with
  | none => false
  | some u => match v with
    | none => false
    | some v => sameAV 300 u v

/-- What was read before an operation that acted, and need not have been, reads the same behind it. -/
def recheck1 (all : List Oper) (t : T AV) (h : AHeap) (o : Oper) : Bool := match wantedA all t o.guard with
  | none => false
  | some w => match w with
    | false => true
    | true => match o.dst with
      | none => (readA P (ev t) h o.op).isSome
      | some d => sameO (readA P (ev t) h o.op) (t.get d)

def recheckO (all : List Oper) (anc : Nat) (t : T AV) (h : AHeap) (p : Nat) (o : Option Oper) : Bool := match o with
  | none => true
  | some o => match isRead P o.op && !(anc.testBit p) with
    | false => true
    | true => recheck1 P all t h o

def recheck (all : List Oper) (anc : Nat) (t : T AV) (h : AHeap) : List Nat → Bool
  | [] => true
  | p :: r => recheckO P all anc t h p all[p]? && recheck all anc t h r

def finOps (fr : AFrame) (all : List Oper) (l : List Oper) (k : List AItem) (t : Option (T AV)) : Option AFrame := match t with
  | none => none
  | some t => match fr with
    | ⟨fn, n, _, _, ds, mode, kind, round⟩ => some ⟨fn, n, t, .ops all l :: k, ds, mode, kind, round⟩

def finDrw (fr : AFrame) (h : AHeap) (all : Array Oper) (i : Nat) (o : Oper) (l dn : List Nat) (k : List AItem) (t : Option (T AV)) : Option AFrame := match t with
  | none => none
  | some t => match (isEff P o || isFloat o.op) && !(recheck P all.toList (bif isEff P o then (planOf P all.toList).anc.getD i 0 else 0) t h dn) with
    | true => none
    | false => match fr with
      | ⟨fn, n, _, _, ds, mode, kind, round⟩ => some ⟨fn, n, t, .drw all l (i :: dn) :: k, ds, mode, kind, round⟩

/-- What a frame is when the operation, at which it stands, has come to v. -/
def finishA (fr : AFrame) (h : AHeap) (v : AV) : Option AFrame := match fr.todo with
  | [] => none
  | it :: k => match it with
    | .ops all l => match l with
      | [] => none
      | o :: l => finOps fr all l k (putT fr.tmps fr.n o.dst v)
    | .drw all l dn => match l with
      | [] => none
      | i :: l => match all[i]? with
        | none => none
        | some o => finDrw P fr h all i o l dn k (putT fr.tmps fr.n o.dst v)
    | .inRange l => some (fr.withTodo (.endRange l :: k))
    | .beginRound => some (fr.withTodo k)
    | _ => none

def clearDsts (t : T AV) : List Oper → T AV
  | [] => t
  | o :: r => match o.dst with
    | none => clearDsts t r
    | some d => clearDsts (t.set none d) r

def raisedT (t : T AV) (todo : List AItem) : T AV := match todo with
  | .drw all _ _ :: _ => clearDsts t all.toList
  | _ => t

def chainOf (mode : AMode) : List (AV × Bool) := match mode with
  | .panicking c => c
  | _ => []

def raiseA (fr : AFrame) (chain : List (AV × Bool)) : AFrame := match fr with
  | ⟨fn, n, t, todo, ds, mode, kind, round⟩ => ⟨fn, n, raisedT t todo, todo, ds, .panicking (chain ++ chainOf mode), kind, round⟩

def argTree : List AV → Nat → T AV → T AV
  | [], _, t => t
  | v :: r, i, t => argTree r (i + 1) (t.set (some v) i)

def enterA (f : FuncId) (args : List AV) (kind : CallKind) : Option AFrame := match P.funcs[f]? with
  | none => none
  | some fn => match fn.body with
    | none => none
    | some c => some ⟨f, max args.length fn.ntmps, argTree args 0 .leaf, [.code c], [], .run, kind, none⟩

def exitA (id : Nat) : List AItem → Option (List AItem)
  | [] => none
  | it :: k => match it with
    | .inBlock id' => match Nat.beq id' id with
      | true => some k
      | false => exitA id k
    | _ => exitA id k

def gotoA (l : Nat) : List AItem → Option (List AItem)
  | [] => none
  | it :: k => match it with
    | .inScope body => match findLabel body l with
      | some rest => some (.code rest :: .inScope body :: k)
      | none => gotoA l k
    | _ => gotoA l k

def consO (v : Option AV) (l : Option (List AV)) : Option (List AV) := match v with
  | none => none
  | some v => match l with
    | none => none
    | some l => some (v :: l)

def loadO (h : AHeap) (ty : TypeId) (p : Option AV) : Option AV := match p with
  | none => none
  | some p => loadA P h ty p

def resListA (h : AHeap) (t : T AV) : List ResultVar → Option (List AV)
  | [] => some []
  | x :: r => match x with
    | .tmp x => consO (t.get x) (resListA h t r)
    | .cell a ty => consO (loadO P h ty (t.get a)) (resListA h t r)

def tupOf (l : Option (List AV)) : Option AV := match l with
  | none => none
  | some l => match l with
    | [v] => some v
    | l => some (.tup l)

def resA (fr : AFrame) (h : AHeap) : Option AV := match P.funcs[fr.fn]? with
  | none => none
  | some fn => tupOf (resListA P h fr.tmps fn.results.toList)

def topM (rest : List AFrame) (heap : AHeap) (fr : Option AFrame) : Option AM := match fr with
  | none => none
  | some fr => some ⟨fr, rest, heap⟩

def settleA (c : AFrame) : AFrame := match c.mode with
  | .panicking ((_, true) :: _) => c.withMode .returning
  | _ => c

def returnA (kind : CallKind) (rest : List AFrame) (heap : AHeap) (v : AV) : Option AM := match rest with
  | [] => none
  | c :: r => match kind with
    | .normal => match c.mode with
      | .run => topM r heap (finishA P c heap v)
      | _ => none
    | .deferred => match c.mode with
      | .run => none
      | _ => some ⟨settleA c, r, heap⟩
    | _ => none

def leaveRound (kind : CallKind) (rest : List AFrame) (heap : AHeap) (l : Nat) (jump : Option Code) : Option AM := match heap.get l with
  | some (.loop lp) => match lp with
    | ⟨_, _, fn, n, tmps, params, assign, body, defers⟩ =>
      returnA P kind rest (heap.put l (.loop ⟨if jump.isNone then .ready else .done, jump, fn, n, tmps, params, assign, body, defers⟩)) (.bool jump.isNone)
  | _ => none

def leaveA (fr : AFrame) (rest : List AFrame) (heap : AHeap) (jump : Option Code) : Option AM := match fr.round with
  | none => match jump with
    | none => some ⟨fr.withMode .returning, rest, heap⟩
    | some .ret => some ⟨fr.withMode .returning, rest, heap⟩
    | some _ => none
  | some l => leaveRound P fr.kind rest heap l jump

def roundTree : List Tmp → List AV → T AV → T AV
  | p :: ps, v :: vs, t => roundTree ps vs (t.set (some v) p)
  | _, _, t => t

def roundA (fr : AFrame) (rest : List AFrame) (heap : AHeap) (l : Nat) (args : List AV) : Option AM := match heap.get l with
  | some (.loop lp) => match lp with
    | ⟨_, _, fn, n, tmps, params, assign, body, _⟩ =>
      if args.length = params.size ∧ params.toList.all (fun p => decide (p < n)) = true ∧ P.funcs[fn]?.isSome = true then
        some ⟨⟨fn, n, roundTree params.toList args tmps, [.code assign, .beginRound, .code body], [], .run, .normal, some l⟩, fr :: rest, heap⟩
      else none
  | _ => none

def loopOf (heap : AHeap) (l : Nat) : Option ALoop := match heap.get l with
  | some (.loop lp) => some lp
  | _ => none
def dfrdOf (heap : AHeap) (l : Nat) : Option (List ADef) := match heap.get l with
  | some (.dfrd (some ds)) => some ds
  | _ => none

def deferA' (fr : AFrame) (rest : List AFrame) (heap : AHeap) (d : ADef) : Option AM := match fr.round with
  | none => topM rest heap (finishA P (fr.withDefers (d :: fr.defers)) heap undefA)
  | some _ => none

def recoverIn (fr : AFrame) (c : AFrame) (r : List AFrame) (heap : AHeap) : Option AM := match c.mode with
  | .panicking ((v, false) :: older) => topM (c.withMode (.panicking ((v, true) :: older)) :: r) heap (finishA P fr heap v)
  | _ => topM (c :: r) heap (finishA P fr heap .nili)

def recoverA (fr : AFrame) (rest : List AFrame) (heap : AHeap) : Option AM := match fr.round with
  | some _ => none
  | none => match fr.kind with
    | .deferred => match rest with
      | [] => none
      | c :: r => recoverIn P fr c r heap
    | _ => none

/-- What a call of a function comes to, where it is known: its value, and the objects behind it. -/
class XT (P : Program) where
  tab : FuncId → Option (AHeap → List AV → Option (AV × T AObj × Nat))

instance (priority := 10) noXT : XT P := ⟨fun _ => none⟩

def calledX [XT P] (h : AHeap) (f : FuncId) (args : List AV) : Option (AV × AHeap) := match XT.tab (P := P) f with
  | none => none
  | some F => match F h args with
    | none => none
    | some (v, o, n) => some (v, ⟨o, n, h.glob⟩)

def enterX [XT P] (fr : AFrame) (rest : List AFrame) (h : AHeap) (f : FuncId) (args : List AV) : Option AM := match calledX P h f args with
  | none => topM (fr :: rest) h (enterA P f args .normal)
  | some (v, h') => topM rest h' (finishA P fr h' v)

/-- What comes of an operation. -/
def upon [XT P] (fr : AFrame) (rest : List AFrame) (heap : AHeap) (r : AR) : Option AM := match r with
  | .val v h => topM rest h (finishA P fr h v)
  | .skip h => topM rest h (finishA P fr h undefA)
  | .enter f args h => enterX P fr rest h f args
  | .round l args => roundA P fr rest heap l args
  | .dfr d => deferA' P fr rest heap d
  | .recover => recoverA P fr rest heap
  | .panic v => some ⟨raiseA fr [(v, false)], rest, heap⟩

def uponO [XT P] (fr : AFrame) (rest : List AFrame) (heap : AHeap) (r : Option AR) : Option AM := match r with
  | none => none
  | some r => upon P fr rest heap r

def operA [XT P] (fr : AFrame) (rest : List AFrame) (heap : AHeap) (all : List Oper) (o : Oper) : Option AM := match wantedA all fr.tmps o.guard with
  | none => none
  | some w => match w with
    | false => topM rest heap (finishA P fr heap undefA)
    | true => uponO P fr rest heap (opA P (ev fr.tmps) heap o.op)

def operO [XT P] (fr : AFrame) (rest : List AFrame) (heap : AHeap) (all : List Oper) (o : Option Oper) : Option AM := match o with
  | none => none
  | some o => operA P fr rest heap all o

def uponDefer (fr : AFrame) (rest : List AFrame) (r : Option AR) : Option AM := match r with
  | some (.enter g args h) => topM (fr :: rest) h (enterA P g args .deferred)
  | _ => none

def deferred1 (fr : AFrame) (rest : List AFrame) (heap : AHeap) (d : ADef) (ds : List ADef) : Option AM := match d.tgt with
  | .collected id => match dfrdOf heap id with
    | none => none
    | some cs => some ⟨fr.withDefers (cs ++ ds), rest, heap.put id (.dfrd none)⟩
  | .fn f cap => uponDefer P (fr.withDefers ds) rest (invokeFnA P heap f d.args cap)
  | .nil => none

def returnO (kind : CallKind) (rest : List AFrame) (heap : AHeap) (v : Option AV) : Option AM := match v with
  | none => none
  | some v => returnA P kind rest heap v

def unwindA (fr : AFrame) (rest : List AFrame) (heap : AHeap) : Option AM := match fr.defers with
  | d :: ds => deferred1 P fr rest heap d ds
  | [] => match fr.mode with
    | .run => none
    | .panicking chain => match rest with
      | [] => none
      | c :: r => some ⟨raiseA c chain, r, heap⟩
    | .returning => returnO P fr.kind rest heap (resA P fr heap)

def toA (fr : AFrame) (rest : List AFrame) (heap : AHeap) (k : List AItem) : Option AM := some ⟨fr.withTodo k, rest, heap⟩

def condA (fr : AFrame) (rest : List AFrame) (heap : AHeap) (a b : Code) (k : List AItem) (c : Option AV) : Option AM := match c with
  | some (.bool t) => match t with
    | true => toA fr rest heap (.code a :: k)
    | false => toA fr rest heap (.code b :: k)
  | _ => none

def regionA (fr : AFrame) (rest : List AFrame) (heap : AHeap) (ops : Array Oper) (draw : Bool) (k : List AItem) : Option AM := match draw with
  | false => toA fr rest heap (.ops ops.toList ops.toList :: k)
  | true => match planOk P ops.toList (planOf P ops.toList) with
    | false => none
    | true => toA fr rest heap (.drw ops (planOf P ops.toList).ord [] :: k)

/-- Where the calls that are deferred in a range over a function are kept. -/
def markA (fr : AFrame) (heap : AHeap) : Option (Nat × AHeap × List ADef) := match fr.round with
  | some l => match loopOf heap l with
    | none => none
    | some lp => some (lp.defers, heap, [])
  | none => some (heap.next, heap.new (.dfrd (some [])), [{ tgt := .collected heap.next, args := [] }])

def rangeEnter (fr : AFrame) (rest : List AFrame) (r : Option AR) (l : Nat) (mark : List ADef) (k : List AItem) : Option AM := match r with
  | some (.enter g args h) => match fr with
    | ⟨fn, n, t, _, ds, mode, kind, round⟩ => topM (⟨fn, n, t, .inRange l :: k, mark ++ ds, mode, kind, round⟩ :: rest) h (enterA P g args .normal)
  | _ => none

def rangeFn (fr : AFrame) (rest : List AFrame) (params : Array Tmp) (assign body : Code) (k : List AItem) (f : AV) (d : Nat) (h : AHeap) (mark : List ADef) : Option AM :=
  rangeEnter P fr rest (callV P (h.new (.loop ⟨.ready, none, fr.fn, fr.n, fr.tmps, params, assign, body, d⟩)) f [.yld h.next]) h.next mark k

def rangeFuncA (fr : AFrame) (rest : List AFrame) (heap : AHeap) (params : Array Tmp) (assign body : Code) (k : List AItem) (f : Option AV) : Option AM := match f with
  | none => none
  | some f => match markA fr heap with
    | none => none
    | some (d, h, mark) => rangeFn P fr rest params assign body k f d h mark

def codeA (fr : AFrame) (rest : List AFrame) (heap : AHeap) (c : Code) (k : List AItem) : Option AM := match c with
  | .ret => leaveA P fr rest heap (some .ret)
  | .skip => toA fr rest heap k
  | .label _ => toA fr rest heap k
  | .seq a b => toA fr rest heap (.code a :: .code b :: k)
  | .cond c a b => condA fr rest heap a b k (ev fr.tmps c)
  | .block id b => toA fr rest heap (.code b :: .inBlock id :: k)
  | .loop b => toA fr rest heap (.code b :: .inLoop b :: k)
  | .scope b => toA fr rest heap (.code b :: .inScope b :: k)
  | .exit id => match exitA id k with
    | some k => toA fr rest heap k
    | none => leaveA P fr rest heap (some (.exit id))
  | .goto l => match gotoA l k with
    | some k => toA fr rest heap k
    | none => leaveA P fr rest heap (some (.goto l))
  | .region _ ops draw => regionA P fr rest heap ops draw k
  | .rangeFunc f params assign body => rangeFuncA P fr rest heap params assign body k (ev fr.tmps f)
  | .refuse _ => none

def pendItems (c : Option Code) (k : List AItem) : List AItem := match c with
  | none => k
  | some c => .code c :: k

def endRangeA (fr : AFrame) (rest : List AFrame) (heap : AHeap) (l : Nat) (k : List AItem) : Option AM := match loopOf heap l with
  | none => none
  | some ⟨state, pending, fn, n, tmps, params, assign, body, defers⟩ => match state with
    | .busy => none
    | _ => some ⟨fr.withTodo (pendItems pending k), rest, heap.put l (.loop ⟨.exhausted, pending, fn, n, tmps, params, assign, body, defers⟩)⟩

def beginA (fr : AFrame) (rest : List AFrame) (heap : AHeap) (k : List AItem) : Option AM := match fr.round with
  | none => none
  | some l => match loopOf heap l with
    | none => none
    | some ⟨state, pending, fn, n, tmps, params, assign, body, defers⟩ => match state with
      | .ready => some ⟨fr.withTodo k, rest, heap.put l (.loop ⟨.busy, pending, fn, n, tmps, params, assign, body, defers⟩)⟩
      | _ => none

def it_code (c : Code) (fr : AFrame) (rest : List AFrame) (heap : AHeap) (k : List AItem) : Option AM := codeA P fr rest heap c k
def it_skip (_ : Nat) (fr : AFrame) (rest : List AFrame) (heap : AHeap) (k : List AItem) : Option AM := toA fr rest heap k
def it_loop (b : Code) (fr : AFrame) (rest : List AFrame) (heap : AHeap) (k : List AItem) : Option AM := toA fr rest heap (.code b :: .inLoop b :: k)
def it_scope (_ : Code) (fr : AFrame) (rest : List AFrame) (heap : AHeap) (k : List AItem) : Option AM := toA fr rest heap k
def it_ops [XT P] (all l : List Oper) (fr : AFrame) (rest : List AFrame) (heap : AHeap) (k : List AItem) : Option AM := match l with
  | [] => toA fr rest heap k
  | o :: _ => operA P fr rest heap all o
def it_drw [XT P] (all : Array Oper) (l _ : List Nat) (fr : AFrame) (rest : List AFrame) (heap : AHeap) (k : List AItem) : Option AM := match l with
  | [] => toA fr rest heap k
  | i :: _ => operO P fr rest heap all.toList all[i]?
def it_inRange (_ : Nat) (_ : AFrame) (_ : List AFrame) (_ : AHeap) (_ : List AItem) : Option AM := none
def it_endRange (l : Nat) (fr : AFrame) (rest : List AFrame) (heap : AHeap) (k : List AItem) : Option AM := endRangeA fr rest heap l k
def it_begin (fr : AFrame) (rest : List AFrame) (heap : AHeap) (k : List AItem) : Option AM := beginA fr rest heap k

def itemA [XT P] (fr : AFrame) (rest : List AFrame) (heap : AHeap) (it : AItem) (k : List AItem) : Option AM :=
  AItem.rec (motive := fun _ => AFrame → List AFrame → AHeap → List AItem → Option AM)
    (it_code P) it_skip it_loop it_scope (it_ops P) (it_drw P) it_inRange it_endRange it_begin it fr rest heap k

def execA [XT P] (fr : AFrame) (rest : List AFrame) (heap : AHeap) (todo : List AItem) : Option AM := match todo with
  | [] => leaveA P fr rest heap none
  | it :: k => itemA P fr rest heap it k

def stepA [XT P] (m : AM) : Option AM := match m with
  | ⟨fr, rest, heap⟩ => match fr.mode with
    | .run => execA P fr rest heap fr.todo
    | _ => unwindA P fr rest heap

/-- What the lowest frame answers. -/
def doneA (f0 : FuncId) (m : AM) : Option AV := match m with
  | ⟨fr, rest, heap⟩ => match rest with
    | _ :: _ => none
    | [] => match fr.mode with
      | .returning => match fr.defers with
        | _ :: _ => none
        | [] => match fr.kind with
          | .normal => match Nat.beq fr.fn f0 with
            | true => resA P fr heap
            | false => none
          | _ => none
      | _ => none

def runA [XT P] (f0 : FuncId) : Nat → AM → Option AV
  | 0, _ => none
  | n + 1, m => match doneA P f0 m with
    | some v => some v
    | none => match stepA P m with
      | none => none
      | some m => runA f0 n m

def startA (G : T (T AV)) (f : FuncId) (args : List AV) : Option AM := match enterA P f args .normal with
  | none => none
  | some fr => some ⟨fr, [], { objs := .leaf, next := 0, glob := G }⟩

/-- The run of a closed call, where the variables of packages hold what G tells. -/
def globA [XT P] (G : T (T AV)) (n : Nat) (f : FuncId) : Bool := match startA P G f [] with
  | none => false
  | some m => match runA P f n m with
    | some (.bool b) => b
    | _ => false

def boolA [XT P] (n : Nat) (f : FuncId) : Bool := globA P .leaf n f

end

end

end Go.Proofs.Ytcdpmiebmhjmpaa.Ev
