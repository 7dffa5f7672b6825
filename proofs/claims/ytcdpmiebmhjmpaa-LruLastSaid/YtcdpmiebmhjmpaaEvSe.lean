/- Runs in which values are open: commands, what has to be shown, and that it suffices. -/
import Derived.Test.YtcdpmiebmhjmpaaEvSw
namespace Go.Proofs.Ytcdpmiebmhjmpaa.Ev
open Go

noncomputable section
variable (P : Program)

/-! ## A row that is told by a function -/

/-- What the one row tells, the other one tells too. -/
def Tells (n : Nat) (c' c : T AV) : Prop := ∀ k v, k < n → c'.get k = some v → c.get k = some v

def ToldK (id : Nat) (c' : T AV) (z' : Nat) (m : AM) (K : AM → Prop) : Prop := match m with
  | ⟨⟨fn, n, t, todo, ds, mode, kind, round⟩, rest, ⟨objs, next, glob⟩⟩ => match rest with
    | _ :: _ => False
    | [] => match todo with
      | .drw _ _ _ :: _ => False
      | todo => match objs.get id with
        | some (.cells c z el lo hi nv fz sg ex) => Tells z' c' c ∧ z' = z ∧ K ⟨⟨fn, n, t, todo, ds, mode, kind, round⟩, [], ⟨objs.set (some (.cells c' z' el lo hi nv fz sg ex)) id, next, glob⟩⟩
        | _ => False

/-- The same, with callers below: the object is led to from a slot. -/
def ToldSK (u : Nat) (p : List Nat) (id : Nat) (c' : T AV) (z' : Nat) (m : AM) (K : AM → Prop) : Prop := match m with
  | ⟨⟨fn, n, t, todo, ds, mode, kind, round⟩, rest, ⟨objs, next, glob⟩⟩ => match mode with
    | .run => match todo with
      | .drw _ _ _ :: _ => False
      | todo => match t.get u with
        | none => False
        | some v0 => match wit ⟨objs, next, glob⟩ p v0 with
          | none => False
          | some v => match headId v with
            | none => False
            | some j => match Nat.beq j id with
              | false => False
              | true => match objs.get id with
                | some (.cells c z el lo hi nv fz sg ex) => Tells z' c' c ∧ z' = z ∧ K ⟨⟨fn, n, t, todo, ds, .run, kind, round⟩, rest, ⟨objs.set (some (.cells c' z' el lo hi nv fz sg ex)) id, next, glob⟩⟩
                | _ => False
    | _ => False

/-- Bytes that are taken for a string: what has to be shown. -/
def bytesAt (h : AHeap) (id ver off k : Nat) (l : List UInt8) : Option Prop := match h.get id with
  | some (.cells c n _ lo hi _ _ _ ex) => match extOf ex n hi ver with
    | some e => bif Nat.ble lo ver && Nat.ble ver hi then some (off + k ≤ e ∧ cellsStr (loadList c off k) = some (.str l)) else none
    | none => none
  | _ => none

def bytesV (h : AHeap) (l : List UInt8) (v : AV) : Option Prop := match v with
  | .slc id ver off len _ => bytesAt h id ver off len l
  | .slg id ver off len _ => bytesAt h id ver off len l
  | _ => none

def bytesOp (ρ : Operand → Option AV) (h : AHeap) (l : List UInt8) (o : Op) : Option Prop := match o with
  | .convert s d x => match P.underlying s with
    | none => none
    | some _ => match P.underlying d with
      | some .string => match isSliceT P d with
        | true => none
        | false => match isByteSlice P s with
          | false => none
          | true => match ρ x with
            | none => none
            | some v => bytesV h l v
      | _ => none
  | _ => none

def BytesK [XT P] (l : List UInt8) (m : AM) (K : AM → Prop) : Prop := match m with
  | ⟨fr, rest, h⟩ => match fr.mode with
    | .run => match topOp fr with
      | none => False
      | some (all, o) => match wantedA all fr.tmps o.guard with
        | some true => optK (bytesOp P (ev fr.tmps) h l o.op) fun p => p ∧ Upon P fr rest h (.val (.str l) h) K
        | _ => False
    | _ => False

/-- Two values are compared, or reckoned with: what has to be shown that it comes to v. -/
def binV (ρ : Operand → Option AV) (b : AV) (o : Op) : Option Prop := match o with
  | .binOp op t x y _ => match ρ x with
    | none => none
    | some v => match ρ y with
      | none => none
      | some w => some (∀ h : AHeap, binA P h op t (isConstO x || isConstO y) v w = some b)
  | _ => none

def BinVK [XT P] (v : AV) (m : AM) (K : AM → Prop) : Prop := match m with
  | ⟨fr, rest, h⟩ => match fr.mode with
    | .run => match topOp fr with
      | none => False
      | some (all, o) => match wantedA all fr.tmps o.guard with
        | some true => optK (binV P (ev fr.tmps) v o.op) fun p => p ∧ Upon P fr rest h (.val v h) K
        | _ => False
    | _ => False

/-- Bytes of which nothing is told, as many as an open number says. -/
def mnzE (h : AHeap) (fn : Func) (args : List AV) : Option (AR × Prop) := match fn.origin == "" with
  | false => none
  | true => match fn.name == "internal/abi.NoEscape" with
    | true => none
    | false => match fn.name == "internal/bytealg.abigen_runtime_cmpstring" with
      | true => none
      | false => match fn.name == "internal/bytealg.IndexByteString" with
        | true => none
        | false => match fn.name == "internal/bytealg.CountString" with
          | true => none
          | false => match fn.name == "internal/bytealg.MakeNoZero" with
            | false => none
            | true => match fn.resultTypes[0]? with
              | none => none
              | some t => match P.underlying t with
                | some (.slice el) => match args with
                  | [.int .i64 n] => some (.val (.slg h.next 0 0 n.toNat 0) (h.new (.cells .leaf n.toNat el 0 0 1 0 false .leaf)), 0 ≤ n ∧ n < 2 ^ 40 ∧ P.cellsOf el = 1)
                  | _ => none
                | _ => none

/-- unsafe.String of as many bytes as an open number says. -/
def ustrE (h : AHeap) (u : TypeId) (l : List UInt8) (p n : AV) : Option (AR × Prop) := match n with
  | .int .i64 k => match p with
    | .ptr id ver off => match h.get id with
      | some (.cells c m el lo hi nv fz sg ex) => match extOf ex m hi ver with
        | none => none
        | some e => match Nat.ble lo ver && Nat.ble ver hi with
          | false => none
          | true => match Nat.beq off 0 && Nat.beq el u && !sg with
            | false => none
            | true => some (.val (.str l) (h.put id (.cells c m el lo hi nv (max fz k.toNat) sg ex)), 0 < k ∧ k < 2 ^ 40 ∧ k.toNat ≤ e ∧ P.cellsOf el = 1 ∧ cellsStr (loadList c 0 k.toNat) = some (.str l))
      | _ => none
    | _ => none
  | _ => none

def extW (ρ : Operand → Option AV) (h : AHeap) (l : List UInt8) (o : Op) : Option (AR × Prop) := match o with
  | .call c => match mapO ρ c.args.toList with
    | none => none
    | some args => match c.callee with
      | .value f => match ρ f with
        | some (.fn (.func g) first cap) => match P.funcs[g]? with
          | none => none
          | some fn => match fn.body with
            | some _ => none
            | none => mnzE P h fn ((first ++ args) ++ cap)
        | _ => none
      | .builtin .unsafeString => match c.argTypes[0]? with
        | none => none
        | some t => match isPtrT P t with
          | none => none
          | some el => match isByteT P el with
            | false => none
            | true => match two1 args with
              | none => none
              | some (p, n) => ustrE P h el l p n
      | _ => none
  | _ => none

def ExtK [XT P] (l : List UInt8) (m : AM) (K : AM → Prop) : Prop := match m with
  | ⟨fr, rest, h⟩ => match fr.mode with
    | .run => match topOp fr with
      | none => False
      | some (all, o) => match wantedA all fr.tmps o.guard with
        | some true => match extW P (ev fr.tmps) h l o.op with
          | none => False
          | some (r, p) => p ∧ Upon P fr rest h r K
        | _ => False
    | _ => False

/-! ## Operations on a heap of which nothing is told -/

def ldW (h : AHeap) (t : TypeId) (v p : AV) : Option (AR × Prop) := match p with
  | .ptr id ver off => match aggT P t with
    | none => none
    | some true => match v with
      | .agg l => match P.info? t with
        | none => none
        | some i => some (.val (.agg l) h, loadCellsA h id ver off i.size = some l)
      | _ => none
    | some false => some (.val v h, loadCellsA h id ver off 1 = some [v])
  | _ => none

def stW (h : AHeap) (t : TypeId) (O : T AObj) (p v : AV) : Option (AR × Prop) := match p with
  | .ptr id ver off => match P.info? t with
    | none => none
    | some i => match Nat.beq v.cells.length i.size with
      | false => none
      | true => some (.skip ⟨O, h.next, h.glob⟩, storeCellsA h id ver off v.cells = some ⟨O, h.next, h.glob⟩)
  | _ => none

def nwW (h : AHeap) (t : TypeId) (O : T AObj) (z : AV) : Option (AR × Prop) := match sizeT P t with
  | none => none
  | some n => match Nat.beq n z.cells.length && z.cells.all AV.one with
    | false => none
    | true => some (.val (.ptr h.next 0 0) ⟨O, h.next + 1, h.glob⟩, h.objs.set (some (.cells (storeList .leaf 0 z.cells) z.cells.length t 0 0 1 0 false .leaf)) h.next = O)

def hopW (ρ : Operand → Option AV) (h : AHeap) (v : AV) (O : T AObj) (o : Op) : Option (AR × Prop) := match o with
  | .load t a => match ρ a with
    | none => none
    | some p => ldW P h t v p
  | .store t a x => match ρ a with
    | none => none
    | some p => match ρ x with
      | none => none
      | some x => stW P h t O p x
  | .alloc t => match zeroA P t with
    | none => none
    | some z => nwW P h t O z
  | .box t x => match ρ x with
    | none => none
    | some z => nwW P h t O z
  | .lookup t m k ok => match ρ m with
    | none => none
    | some a => match ρ k with
      | none => none
      | some b => some (.val v h, lookupA P h t a b ok = some v)
  | .mapUpdate t m k x => match ρ m with
    | none => none
    | some a => match ρ k with
      | none => none
      | some b => match ρ x with
        | none => none
        | some c => some (.skip ⟨O, h.next, h.glob⟩, mapPutA P h t a b c = some ⟨O, h.next, h.glob⟩)
  | .binOp op t x y _ => match ρ x with
    | none => none
    | some a => match ρ y with
      | none => none
      | some b => some (.val v h, binA P h op t (isConstO x || isConstO y) a b = some v)
  | .slice t x lo hi mx => match ρ x with
    | none => none
    | some a => match optEv ρ lo with
      | none => none
      | some l => match optEv ρ hi with
        | none => none
        | some hh => match optEv ρ mx with
          | none => none
          | some m => some (.val v h, sliceH P h t a l hh m = some v)
  | .call c => match mapO ρ c.args.toList with
    | none => none
    | some args => match c.callee with
      | .builtin b => match isBuiltinR b with
        | true => none
        | false => some (.val v ⟨O, h.next, h.glob⟩, builtinE P h b c.argTypes[0]? c.argTypes[1]? args = some (.val v ⟨O, h.next, h.glob⟩))
      | _ => none
  | _ => none

/-- What reading comes to, on a heap of which nothing is told. -/
def ReadsH (ρ : Operand → Option AV) (h : AHeap) (o : Op) (v : AV) (K : Prop) : Prop := match o with
  | .load t a => match ρ a with
    | some (.ptr id ver off) => match ldW P h t v (.ptr id ver off) with
      | none => False
      | some (_, q) => q ∧ K
    | _ => readA P ρ h (.load t a) = some v ∧ K
  | o => readA P ρ h o = some v ∧ K

/-- It reads the same. -/
def Same1H (all : List Oper) (t : T AV) (h : AHeap) (o : Oper) (K : Prop) : Prop := match wantedA all t o.guard with
  | none => False
  | some w => match w with
    | false => K
    | true => match o.dst with
      | none => (readA P (ev t) h o.op).isSome = true ∧ K
      | some d => match t.get d with
        | none => False
        | some v => ReadsH P (ev t) h o.op v (andIf (okD 300 v) K)

def SameH (all : List Oper) (anc : Nat) (t : T AV) (h : AHeap) : List Nat → Prop → Prop
  | [], K => K
  | p :: r, K => match all[p]? with
    | none => SameH all anc t h r K
    | some o => match isRead P o.op && !(anc.testBit p) with
      | false => SameH all anc t h r K
      | true => Same1H P all t h o (SameH all anc t h r K)

def FinDrwH (fr : AFrame) (h : AHeap) (all : Array Oper) (i : Nat) (o : Oper) (l dn : List Nat) (k : List AItem) (t : Option (T AV)) (K : AFrame → Prop) : Prop := match t with
  | none => False
  | some t => match fr with
    | ⟨fn, n, _, _, ds, mode, kind, round⟩ => match isEff P o || isFloat o.op with
      | false => K ⟨fn, n, t, .drw all l (i :: dn) :: k, ds, mode, kind, round⟩
      | true => SameH P all.toList (bif isEff P o then (planOf P all.toList).anc.getD i 0 else 0) t h dn (K ⟨fn, n, t, .drw all l (i :: dn) :: k, ds, mode, kind, round⟩)

/-- The operation, at which a frame stands, has come to v. -/
def FinH (fr : AFrame) (h : AHeap) (v : AV) (K : AFrame → Prop) : Prop := match fr.todo with
  | .drw all (i :: l) dn :: k => match all[i]? with
    | none => False
    | some o => FinDrwH P fr h all i o l dn k (putT fr.tmps fr.n o.dst v) K
  | _ => optK (finishA P fr h v) K

def UponH [XT P] (fr : AFrame) (rest : List AFrame) (heap : AHeap) (r : AR) (K : AM → Prop) : Prop := match r with
  | .val v h => FinH P fr h v fun fr => K ⟨fr, rest, h⟩
  | .skip h => FinH P fr h undefA fun fr => K ⟨fr, rest, h⟩
  | r => optK (upon P fr rest heap r) K

def HopK [XT P] (v : AV) (O : T AObj) (m : AM) (K : AM → Prop) : Prop := match m with
  | ⟨fr, rest, h⟩ => match fr.mode with
    | .run => match topOp fr with
      | none => False
      | some (all, o) => match wantedA all fr.tmps o.guard with
        | some true => match hopW P (ev fr.tmps) h v O o.op with
          | none => False
          | some (r, p) => p ∧ UponH P fr rest h r K
        | _ => False
    | _ => False

/-- An operation that makes an object, on a heap of which nothing is told. -/
def hopnW (ρ : Operand → Option AV) (h : AHeap) (v : AV) (O : T AObj) (n : Nat) (o : Op) : Option (AR × Prop) := match o with
  | .call c => match mapO ρ c.args.toList with
    | none => none
    | some args => match c.callee with
      | .builtin b => match isBuiltinR b with
        | true => none
        | false => some (.val v ⟨O, n, h.glob⟩, builtinE P h b c.argTypes[0]? c.argTypes[1]? args = some (.val v ⟨O, n, h.glob⟩))
      | _ => none
  | .makeMap _ r => match r with
    | none => some (.val (.mp h.next) ⟨O, h.next + 1, h.glob⟩, h.objs.set (some (.map [] 0)) h.next = O)
    | some _ => none
  | .buildSlice t k parts => match partsA ρ parts.toList with
    | none => none
    | some l => some (.val v ⟨O, n, h.glob⟩, buildSliceA P h t k l = some (v, ⟨O, n, h.glob⟩))
  | .makeSlice t l c => match ρ l with
    | none => none
    | some a => match ρ c with
      | none => none
      | some b => some (.val v ⟨O, n, h.glob⟩, makeSliceA P h t a b = some (v, ⟨O, n, h.glob⟩))
  | .convert s d x => match isSliceT P d with
    | false => none
    | true => match ρ x with
      | none => none
      | some a => some (.val v ⟨O, n, h.glob⟩, convNewA P h s d a = some (v, ⟨O, n, h.glob⟩))
  | _ => none

def HopnK [XT P] (v : AV) (O : T AObj) (n : Nat) (m : AM) (K : AM → Prop) : Prop := match m with
  | ⟨fr, rest, h⟩ => match fr.mode with
    | .run => match topOp fr with
      | none => False
      | some (all, o) => match wantedA all fr.tmps o.guard with
        | some true => match hopnW P (ev fr.tmps) h v O n o.op with
          | none => False
          | some (r, p) => p ∧ UponH P fr rest h r K
        | _ => False
    | _ => False

/-- The values of results that stand in variables: what has to be shown. -/
def retW (h : AHeap) (t : T AV) : List ResultVar → List AV → Option (List AV × Prop)
  | [], _ => some ([], True)
  | x :: r, vs => match vs with
    | [] => none
    | v :: vs => match retW h t r vs with
      | none => none
      | some (l, q) => match x with
        | .tmp i => match t.get i with
          | none => none
          | some u => some (u :: l, q)
        | .cell a ty => match t.get a with
          | none => none
          | some p => match ldW P h ty v p with
            | some (.val u _, p') => some (u :: l, p' ∧ q)
            | _ => none

def HRetK (vs : List AV) (m : AM) (K : AM → Prop) : Prop := match m with
  | ⟨fr, rest, h⟩ => match fr.mode with
    | .returning => match fr.defers with
      | [] => match fr.kind with
        | .normal => match rest with
          | [] => False
          | c :: r => match c.mode with
            | .run => match P.funcs[fr.fn]? with
              | none => False
              | some fn => match retW P h fr.tmps fn.results.toList vs with
                | none => False
                | some (l, q) => q ∧ optK (tupOf (some l)) fun v => FinH P c h v fun c => K ⟨c, r, h⟩
            | _ => False
        | _ => False
      | _ :: _ => False
    | _ => False

/-- What a call comes to, whoever shows it. -/
def AskOk (f : FuncId) (args : List AV) (h : AHeap) (v : AV) (H : AHeap) : Prop :=
  ∀ (B : Base) (R : Bij) (w : World) (args' : List Value), HRel P B R h w → B.n ≤ w.heap.size → VRels R args args' →
    Calls P f args'.toArray w fun e w' => ∃ R' v', e = .returned v' ∧ VRel R' v v' ∧ HRel P B R' ⟨H.objs, H.next, h.glob⟩ w' ∧ Keeps R w R' w'

def AskK [XT P] (v : AV) (H : AHeap) (m : AM) (K : AM → Prop) : Prop := match m with
  | ⟨fr, rest, h⟩ => match fr.mode with
    | .run => match topOp fr with
      | none => False
      | some (all, op) => match wantedA all fr.tmps op.guard with
        | some true => match opA P (ev fr.tmps) h op.op with
          | some (.enter f args h0) => AskOk P f args h0 v H ∧ Upon P fr rest h (.val v ⟨H.objs, H.next, h0.glob⟩) K
          | _ => False
        | _ => False
    | _ => False

/-- A cell holds a slice whose capacity the tape drew: it is given a name. -/
def CapK (id k : Nat) (m : AM) (K : AM → Prop) : Prop := match m with
  | ⟨⟨fn, n, t, todo, ds, mode, kind, round⟩, rest, ⟨objs, next, glob⟩⟩ => match rest with
    | _ :: _ => False
    | [] => match todo with
      | .drw _ _ _ :: _ => False
      | todo => match objs.get id with
        | some (.cells c z el lo hi nv fz sg ex) => match c.get k with
          | some (.slg i r o l _st) => 0 < l ∧ ∀ cap, l ≤ cap → K ⟨⟨fn, n, t, todo, ds, mode, kind, round⟩, [], ⟨objs.set (some (.cells (c.set (some (.slc i r o l cap)) k) z el lo hi nv fz sg ex)) id, next, glob⟩⟩
          | _ => False
        | _ => False

/-- Where a call begins that is handed memory. -/
def startH (f : FuncId) (args : List AV) (H : AHeap) : AM := match enterA P f args .normal with
  | some a => ⟨a, [], H⟩
  | none => ⟨⟨0, 0, .leaf, [], [], .run, .normal, none⟩, [], H⟩

/-! ## Commands -/

inductive Cmd where
  /-- So many steps. -/
  | run (n : Nat)
  /-- A condition, or a guard, is that. -/
  | br (b : Bool)
  /-- A slot's truth value, or value, is that. -/
  | know (u : Nat) (b : Bool)
  | slot (u : Nat) (v : AV)
  /-- An operation on what is open. -/
  | op
  /-- The operation comes to that. -/
  | res (r : AR)
  /-- A step at whose end a region's reads are held again. -/
  | step
  /-- Names given anew. -/
  | can (keep : Nat) (ids us : List Nat) (uss : List (List Nat))
  /-- Some slots alone. -/
  | keep (us : List Nat)
  /-- A call by what is known of it: one that takes and answers no memory. -/
  | call (us : List Nat) (Q : AV → Prop)
  /-- The same, where it answers v. -/
  | callv (us : List Nat) (v : AV)
  /-- A call that is handed memory, by what is known of it. -/
  | callh (l : List (Nat × Nat × List Nat)) (us : List Nat) (v : AV) (H : AHeap)
  /-- An object's row is that, or more. -/
  | told (id : Nat) (c : T AV) (n : Nat)
  /-- The same, with callers below: from a slot, by a path. -/
  | tolds (u : Nat) (p : List Nat) (id : Nat) (c : T AV) (n : Nat)
  /-- A capacity is named: of an object, in a cell. -/
  | cap (id k : Nat)
  /-- Bytes, taken for a string, are these. -/
  | bytes (l : List UInt8)
  /-- As many bytes as an open number says are made; or taken for a string, which is l. -/
  | ext (l : List UInt8)
  /-- Two values, compared or reckoned with, come to that. -/
  | isv (v : AV)
  /-- A call comes to that, by whatever shows it: its answer, and the objects behind it. -/
  | ask (v : AV) (H : AHeap)
  /-- An operation on rows of open length, told by functions; does what is appended to move? -/
  | opw (moved : Bool)
  /-- An operation on a heap of which nothing is told: its value, and the objects behind it. -/
  | hop (v : AV) (O : T AObj)
  | hopn (v : AV) (O : T AObj) (n : Nat)
  /-- A call comes back, its results in variables. -/
  | hret (vs : List AV)
  | done

def cmdK [XT P] (f0 : FuncId) (Q : AV → AHeap → Prop) (keep : Nat) (c : Cmd) (m : AM) (K : AM → Prop) : Prop := match c with
  | .run n => optK (runN P n m) K
  | .br b => Br b m K
  | .know u b => Know u b m K
  | .slot u v => Slot u v m K
  | .op => OpK P m K
  | .res x => ResK P x m K
  | .step => StepK P m K
  | .keep us => KeepK us m K
  | .can k ids us uss => bif Nat.ble keep k then CanP k ids us uss m K else False
  | .call us q => CallK P us q m K
  | .callv us v => CallV P us v m K
  | .callh l us v H => CallH P l us v H m K
  | .told id c n => ToldK id c n m K
  | .tolds u p id c n => ToldSK u p id c n m K
  | .cap id k => CapK id k m K
  | .bytes l => BytesK P l m K
  | .isv v => BinVK P v m K
  | .ext l => ExtK P l m K
  | .opw b => OpWK P b m K
  | .ask v H => AskK P v H m K
  | .hop v O => HopK P v O m K
  | .hopn v O n => HopnK P v O n m K
  | .hret vs => HRetK P vs m K
  | .done => DoneK P f0 Q m

/-- What has to be shown. -/
def Obl [XT P] (f0 : FuncId) (Q : AV → AHeap → Prop) (keep : Nat) (K : AM → Prop) (l : List Cmd) : AM → Prop :=
  List.rec (motive := fun _ => AM → Prop) K (fun c _ ih m => cmdK P f0 Q keep c m ih) l

end

section
variable {P : Program}

theorem ToldK_goal {keep : Nat} {f0 : FuncId} {Q : AV → AHeap → Prop} {id : Nat} {c' : T AV} {z' : Nat} {m : AM} {K : AM → Prop} (e : ToldK id c' z' m K) (hK : ∀ m, K m → Goal P keep f0 Q m) : Goal P keep f0 Q m := by
  intro w0 base fr cs w hk s
  obtain ⟨⟨fn, n, t, todo, ds, mode, kind, round⟩, rest, ⟨objs, next, glob⟩⟩ := m
  unfold ToldK at e
  simp only at e
  split at e
  · exact e.elim
  split at e
  · exact e.elim
  rename_i hn
  split at e
  rotate_left
  · exact e.elim
  rename_i c z el lo hi nv fz sg ex hobj
  obtain ⟨hle, rfl, e⟩ := e
  obtain ⟨B, R, fs, hc, hb, kh, ho, kt, kb⟩ := s
  generalize ho' : AObj.cells c' z' el lo hi nv fz sg ex = o' at e
  let h' : AHeap := ⟨objs.set (some o') id, next, glob⟩
  let B' : Base := { B with pend := fun i => match B.pend i with
    | none => none
    | some _ => h'.get i }
  have hget : ∀ i, h'.get i = if i = id then some o' else objs.get i := fun i => T.get_set ..
  have hpn : ∀ i, B.pend i = none ↔ B'.pend i = none := by
    intro i
    show _ ↔ (match B.pend i with
      | none => none
      | some _ => h'.get i) = none
    cases hp : B.pend i with
    | none => simp
    | some o =>
      have := (kh.pend i o hp).2.1
      refine ⟨fun h => (by cases h), fun h => ?_⟩
      simp only at h
      rw [hget] at h
      split at h
      · cases h
      · change objs.get i = some o at this; rw [this] at h; cases h
  refine hK _ e w0 base fr cs w hk ⟨B', R, fs, hc, hb, ?_, ho, ?_, kb⟩
  · refine ⟨kh.fresh, fun i o eo hpe => ?_, fun i o eo => ?_, kh.place, fun i hi => ⟨(kh.rd i hi).1, fun o eo => ?_⟩, fun i hi => (hpn i).1 (kh.rp i hi), kh.rol, kh.low, kh.pin, kh.apart, kh.same, kh.glob⟩
    · have eo' : h'.get i = some o := eo
      rw [hget] at eo'
      split at eo'
      · rename_i hi
        subst hi
        cases eo'
        obtain ⟨a1, a2, a3, a4, a5⟩ : ObjRel P R w i (.cells c z' el lo hi nv fz sg ex) := kh.obj i _ hobj ((hpn i).2 hpe)
        subst ho'
        refine ⟨a1, a2, a3, fun r e b1 b2 b3 => ?_, a5⟩
        obtain ⟨L, h1, cs, a, b, g1, g2, g3, g4, g5⟩ := a4 r e b1 b2 b3
        exact ⟨L, h1, cs, a, b, g1, g2, g3, g4, fun q v q1 q2 q3 => g5 q v q1 q2 (hle q v (Nat.lt_of_lt_of_le q1 (a5 r e b1 b2 b3)) q3)⟩
      · exact kh.obj i o eo' ((hpn i).2 hpe)
    · change (match B.pend i with
        | none => none
        | some _ => h'.get i) = some o at eo
      cases hp : B.pend i with
      | none => rw [hp] at eo; cases eo
      | some o0 =>
        rw [hp] at eo
        exact ⟨(kh.pend i o0 hp).1, eo, (kh.pend i o0 hp).2.2⟩
    · have eo' : h'.get i = some o := eo
      rw [hget] at eo'
      split at eo'
      · rename_i hi'
        subst hi'
        have := (kh.rd i hi).2 _ hobj
        cases this
      · exact (kh.rd i hi).2 o eo'
  · obtain ⟨k1, k2, k3, k4, k5, k6, k7, k8, k9⟩ := kt
    refine ⟨k1, k2, k3, k4, k5, k6, k7, k8, ?_⟩
    cases mode with
    | run =>
      change TodoRel P B R 0 false _ todo t fr.todo fr.tmps at k9
      show TodoRel P B' R 0 false h' todo t fr.todo fr.tmps
      cases todo with
      | nil => exact k9
      | cons it kk =>
        cases it with
        | drw a b c => exact absurd rfl (hn a b c kk)
        | _ => exact k9
    | returning => exact k9
    | panicking c => exact k9

theorem ToldSK_goal {keep : Nat} {f0 : FuncId} {Q : AV → AHeap → Prop} {u : Nat} {p : List Nat} {id : Nat} {c' : T AV} {z' : Nat} {m : AM} {K : AM → Prop} (e : ToldSK u p id c' z' m K) (hK : ∀ m, K m → Goal P keep f0 Q m) : Goal P keep f0 Q m := by
  intro w0 base fr cs w hk s
  obtain ⟨⟨fn, n, t, todo, ds, mode, kind, round⟩, rest, ⟨objs, next, glob⟩⟩ := m
  unfold ToldSK at e
  simp only at e
  split at e
  rotate_left
  · exact e.elim
  split at e
  · exact e.elim
  rename_i hn
  split at e
  · exact e.elim
  rename_i v0 hv0
  split at e
  · exact e.elim
  rename_i v hv
  split at e
  · exact e.elim
  rename_i j hj
  split at e
  · exact e.elim
  rename_i hji
  split at e
  rotate_left
  · exact e.elim
  rename_i c z el lo hi nv fz sg ex hobj
  obtain ⟨hle, rfl, e⟩ := e
  obtain rfl := Nat.eq_of_beq_eq_true hji
  obtain ⟨B, R, fs, hc, hb, kh, ho, kt, kb⟩ := s
  obtain ⟨k1, k2, k3, k4, k5, k6, k7, k8, k9⟩ := kt
  change TodoRel P B R rest.length false _ todo t fr.todo fr.tmps at k9
  have hs : All2 (ItemRel R) todo fr.todo ∧ Slots R t fr.tmps := by
    cases todo with
    | nil => exact k9
    | cons it kk =>
      cases it with
      | drw a b c => exact absurd rfl (hn a b c kk)
      | _ => exact k9
  obtain ⟨x, _, hx⟩ := hs.2 u v0 hv0
  obtain ⟨x', hx'⟩ := wit_rel kh hv hx
  obtain ⟨r, L, hL⟩ := headId_live hx' hj
  have hp : B.pend j = none := by
    cases hpj : B.pend j with
    | none => rfl
    | some o => have := (kh.pend j o hpj).2.2 r; rw [this] at hL; cases hL
  have hless : LessH P j ⟨objs, next, glob⟩ ⟨objs.set (some (.cells c' z' el lo hi nv fz sg ex)) j, next, glob⟩ :=
    ⟨.cells c z' el lo hi nv fz sg ex, .cells c' z' el lo hi nv fz sg ex, hobj, rfl, rfl, fun i => T.get_set .., rfl, rfl, cells_less' hle⟩
  refine hK _ e w0 base fr cs w hk ⟨B, R, fs, hc, hb, kh.less hless hp, ho, ⟨k1, k2, k3, k4, k5, k6, k7, k8, ?_⟩, kb.mono (fun _ _ _ h => h) ⟨rfl, fun _ _ h _ => ⟨h, rfl⟩⟩ (Nat.le_refl _)⟩
  show TodoRel P B R rest.length false _ todo t fr.todo fr.tmps
  cases todo with
  | nil => exact hs
  | cons it kk =>
    cases it with
    | drw a b c => exact absurd rfl (hn a b c kk)
    | _ => exact hs

theorem bytesOp_ok {ρ : Operand → Option AV} {h : AHeap} {l : List UInt8} {o : Op} {p : Prop} (e : bytesOp P ρ h l o = some p) (hp : p) : opA P ρ h o = some (.val (.str l) h) := by
  unfold bytesOp at e
  split at e
  rotate_left
  · cases e
  rename_i s d x
  split at e
  · cases e
  rename_i us hs
  split at e
  rotate_left
  · cases e
  rename_i hd
  split at e
  · cases e
  rename_i hsl
  split at e
  · cases e
  rename_i hb
  split at e
  · cases e
  rename_i v hv
  have key : ∀ id ver off k, bytesAt h id ver off k l = some p → cellsStr (loadCellsA h id ver off k) = some (.str l) := by
    intro id ver off k e
    unfold bytesAt at e
    split at e
    rotate_left
    · cases e
    rename_i c n el lo hi nv fz sg ex ho
    split at e
    rotate_left
    · cases e
    rename_i ee he
    cases hc : (Nat.ble lo ver && Nat.ble ver hi) with
    | false => rw [hc] at e; cases e
    | true =>
      rw [hc] at e
      simp only [cond_true, Option.some.injEq] at e
      subst e
      simp only [Bool.and_eq_true, Nat.ble_eq] at hc
      unfold loadCellsA
      rw [ho]
      simp only [he]
      rw [if_pos ⟨hc.1, hc.2, hp.1⟩]
      exact hp.2
  have conv : convA P h s d v = some (.str l) := by
    unfold convA
    rw [hs, hd]
    simp only [hb]
    unfold bytesV at e
    split at e
    · rename_i id ver off len c
      show cellsStr (loadCellsA h id ver off len) = _
      exact key _ _ _ _ e
    · rename_i id ver off len st
      show cellsStr (loadCellsA h id ver off len) = _
      exact key _ _ _ _ e
    · cases e
  show one' ρ x (fun v => convE P h s d v) = _
  unfold one'
  rw [hv]
  show convE P h s d v = _
  unfold convE
  rw [hsl]
  show valE h (convA P h s d v) = _
  rw [conv]
  rfl

theorem mnzE_ok {h : AHeap} {fn : Func} {args : List AV} {r : AR} {p : Prop} (e : mnzE P h fn args = some (r, p)) (hp : p) : externA P h fn args = some r := by
  unfold mnzE at e
  unfold externA
  split at e
  · cases e
  rename_i h0
  simp only [h0]
  split at e
  · cases e
  rename_i h1
  simp only [h1]
  split at e
  · cases e
  rename_i h2
  simp only [h2]
  split at e
  · cases e
  rename_i h3
  simp only [h3]
  split at e
  · cases e
  rename_i h4
  simp only [h4]
  split at e
  · cases e
  rename_i h5
  simp only [h5]
  unfold extMakeNoZero
  split at e
  · cases e
  rename_i t ht
  simp only [ht]
  split at e
  rotate_left
  · cases e
  rename_i el hu
  simp only [hu]
  split at e
  rotate_left
  · cases e
  cases e
  simp only
  rw [if_pos hp]

theorem ustrE_ok {h : AHeap} {u : TypeId} {l : List UInt8} {v n : AV} {r : AR} {p : Prop} (e : ustrE P h u l v n = some (r, p)) (hp : p) : valH (unsafeStrA P h u v n) = some r := by
  unfold ustrE at e
  split at e
  rotate_left
  · cases e
  rename_i k
  split at e
  rotate_left
  · cases e
  rename_i id ver off
  split at e
  rotate_left
  · cases e
  rename_i c m el lo hi nv fz sg ex ho
  split at e
  · cases e
  rename_i e0 he
  split at e
  · cases e
  rename_i hb
  split at e
  · cases e
  rename_i hq
  cases e
  simp only [Bool.and_eq_true, Nat.ble_eq] at hb
  rw [Bool.and_eq_true, Bool.and_eq_true] at hq
  obtain ⟨⟨q1, q2⟩, q3⟩ := hq
  have q1 := Nat.eq_of_beq_eq_true q1
  have q2 := Nat.eq_of_beq_eq_true q2
  have q3 : sg = false := by cases sg; rfl; cases q3
  obtain ⟨p1, p2, p3, p4, p5⟩ := hp
  unfold cellsStr at p5
  split at p5
  · cases p5
  rename_i ls hls
  unfold strAV at p5
  split at p5
  · cases p5
  rename_i s hs
  cases p5
  unfold unsafeStrA
  simp only
  rw [if_neg (by omega), if_pos ⟨p1, p2⟩]
  unfold unsafeAt
  rw [ho]
  simp only [he]
  rw [if_pos ⟨hb.1, hb.2, p3, q1, q2, q3, p4⟩]
  simp only [hls, hs]
  rfl

theorem extW_ok {ρ : Operand → Option AV} {h : AHeap} {l : List UInt8} {o : Op} {r : AR} {p : Prop} (e : extW P ρ h l o = some (r, p)) (hp : p) : opA P ρ h o = some r := by
  unfold extW at e
  split at e
  rotate_left
  · cases e
  rename_i c
  split at e
  · cases e
  rename_i args ha
  show callOpA P ρ h c = some r
  unfold callOpA
  simp only [ha]
  split at e
  · rename_i f hc
    rw [hc]
    simp only
    split at e
    rotate_left
    · cases e
    rename_i g first cap hf
    rw [hf]
    show invokeFnA P h (.func g) (first ++ args) cap = some r
    show callA P h g ((first ++ args) ++ cap) = some r
    unfold callA
    split at e
    · cases e
    rename_i fn hfn
    simp only [hfn]
    split at e
    · cases e
    rename_i hbody
    simp only [hbody]
    exact mnzE_ok e hp
  · rename_i hc
    rw [hc]
    simp only
    split at e
    · cases e
    rename_i t ht
    split at e
    · cases e
    rename_i el hel
    split at e
    · cases e
    rename_i hby
    split at e
    · cases e
    rename_i v n htw
    show builtinE P h .unsafeString c.argTypes[0]? c.argTypes[1]? args = some r
    unfold builtinE
    simp only [ht]
    unfold unsafeE
    simp only [hel, hby, htw]
    exact ustrE_ok e hp
  · cases e

theorem swap_goal {keep : Nat} {f0 : FuncId} {Q : AV → AHeap → Prop} {id : Nat} {fn n : Nat} {t : T AV} {todo : List AItem} {ds : List ADef} {mode : AMode} {kind : CallKind} {round : Option Nat} {objs : T AObj} {next : Nat} {glob : T (T AV)} {o : AObj}
    (hn : ∀ a b c k, todo ≠ .drw a b c :: k) (hobj : objs.get id = some o) (hro : o.isRo = false)
    (hany : ∃ o' : AObj, o'.isRo = false ∧ Goal P keep f0 Q ⟨⟨fn, n, t, todo, ds, mode, kind, round⟩, [], ⟨objs.set (some o') id, next, glob⟩⟩)
    (hsw : ∀ (R : Bij) (w : World), ObjRel P R w id o → ∃ o' : AObj, o'.isRo = false ∧ ObjRel P R w id o' ∧ Goal P keep f0 Q ⟨⟨fn, n, t, todo, ds, mode, kind, round⟩, [], ⟨objs.set (some o') id, next, glob⟩⟩) :
    Goal P keep f0 Q ⟨⟨fn, n, t, todo, ds, mode, kind, round⟩, [], ⟨objs, next, glob⟩⟩ := by
  intro w0 base fr cs w hk s
  obtain ⟨B, R, fs, hc, hb, kh, ho, kt, kb⟩ := s
  obtain ⟨o', hro', hobj', hG⟩ : ∃ o' : AObj, o'.isRo = false ∧ (B.pend id = none → ObjRel P R w id o') ∧ Goal P keep f0 Q ⟨⟨fn, n, t, todo, ds, mode, kind, round⟩, [], ⟨objs.set (some o') id, next, glob⟩⟩ := by
    cases hp : B.pend id with
    | none =>
      obtain ⟨o', h1, h2, h3⟩ := hsw R w (kh.obj id _ hobj hp)
      exact ⟨o', h1, fun _ => h2, h3⟩
    | some x =>
      obtain ⟨o', h1, h3⟩ := hany
      exact ⟨o', h1, (fun h => by cases h), h3⟩
  let h' : AHeap := ⟨objs.set (some o') id, next, glob⟩
  let B' : Base := { B with pend := fun i => match B.pend i with
    | none => none
    | some _ => h'.get i }
  have hget : ∀ i, h'.get i = if i = id then some o' else objs.get i := fun i => T.get_set ..
  have hpn : ∀ i, B.pend i = none ↔ B'.pend i = none := by
    intro i
    show _ ↔ (match B.pend i with
      | none => none
      | some _ => h'.get i) = none
    cases hp : B.pend i with
    | none => simp
    | some o =>
      have := (kh.pend i o hp).2.1
      refine ⟨fun h => (by cases h), fun h => ?_⟩
      simp only at h
      rw [hget] at h
      split at h
      · cases h
      · change objs.get i = some o at this; rw [this] at h; cases h
  refine hG w0 base fr cs w hk ⟨B', R, fs, hc, hb, ?_, ho, ?_, kb⟩
  · refine ⟨kh.fresh, fun i o eo hpe => ?_, fun i o eo => ?_, kh.place, fun i hi => ⟨(kh.rd i hi).1, fun o eo => ?_⟩, fun i hi => (hpn i).1 (kh.rp i hi), kh.rol, kh.low, kh.pin, kh.apart, kh.same, kh.glob⟩
    · have eo' : h'.get i = some o := eo
      rw [hget] at eo'
      split at eo'
      · rename_i hi
        subst hi
        cases eo'
        exact hobj' ((hpn i).2 hpe)
      · exact kh.obj i o eo' ((hpn i).2 hpe)
    · change (match B.pend i with
        | none => none
        | some _ => h'.get i) = some o at eo
      cases hp : B.pend i with
      | none => rw [hp] at eo; cases eo
      | some o0 =>
        rw [hp] at eo
        exact ⟨(kh.pend i o0 hp).1, eo, (kh.pend i o0 hp).2.2⟩
    · have eo' : h'.get i = some o := eo
      rw [hget] at eo'
      split at eo'
      · rename_i hi'
        subst hi'
        have := (kh.rd i hi).2 _ hobj
        rw [hro] at this; cases this
      · exact (kh.rd i hi).2 o eo'
  · obtain ⟨k1, k2, k3, k4, k5, k6, k7, k8, k9⟩ := kt
    refine ⟨k1, k2, k3, k4, k5, k6, k7, k8, ?_⟩
    cases mode with
    | run =>
      change TodoRel P B R 0 false _ todo t fr.todo fr.tmps at k9
      show TodoRel P B' R 0 false h' todo t fr.todo fr.tmps
      cases todo with
      | nil => exact k9
      | cons it kk =>
        cases it with
        | drw a b c => exact absurd rfl (hn a b c kk)
        | _ => exact k9
    | returning => exact k9
    | panicking c => exact k9

theorem CapK_goal {keep : Nat} {f0 : FuncId} {Q : AV → AHeap → Prop} {id k : Nat} {m : AM} {K : AM → Prop} (e : CapK id k m K) (hK : ∀ m, K m → Goal P keep f0 Q m) : Goal P keep f0 Q m := by
  obtain ⟨⟨fn, n, t, todo, ds, mode, kind, round⟩, rest, ⟨objs, next, glob⟩⟩ := m
  unfold CapK at e
  simp only at e
  split at e
  · exact e.elim
  split at e
  · exact e.elim
  rename_i hn
  split at e
  rotate_left
  · exact e.elim
  rename_i c z el lo hi nv fz sg ex hobj
  split at e
  rotate_left
  · exact e.elim
  rename_i i r o l st hc
  obtain ⟨hl, e⟩ := e
  refine swap_goal hn hobj rfl ⟨_, rfl, hK _ (e l (Nat.le_refl _))⟩ fun R w hrel => ?_
  obtain ⟨a1, a2, a3, a4, a5⟩ := hrel
  generalize hcap : max l (((R i r).elim 0 Loc.kap) - st) = cap
  refine ⟨.cells (c.set (some (.slc i r o l cap)) k) z el lo hi nv fz sg ex, rfl, ?_, hK _ (e cap (by omega))⟩
  refine ⟨a1, a2, a3, fun r' e' b1 b2 b3 => ?_, a5⟩
  obtain ⟨L, h1, cs, a, b, g1, g2, g3, g4, g5⟩ := a4 r' e' b1 b2 b3
  refine ⟨L, h1, cs, a, b, g1, g2, g3, g4, fun q v q1 q2 q3 => ?_⟩
  rw [T.get_set] at q3
  split at q3
  · rename_i hq
    subst hq
    cases q3
    obtain ⟨x, hx, M, ad, hM, m1, m2, rfl, m3⟩ := g5 q _ q1 q2 hc
    refine ⟨_, hx, M, hM, m1, ?_⟩
    have hc2 : cap = M.kap - st := by
      rw [← hcap, hM]
      simp only [Option.elim]
      omega
    rw [m3 (by omega), hc2]
  · exact g5 q v q1 q2 q3

open Classical in
/-- A call that is known at one place. -/
noncomputable def askT (f : FuncId) (args : List AV) (h : AHeap) (v : AV) (H : AHeap) : FuncId → Option (AHeap → List AV → Option (AV × T AObj × Nat)) :=
  fun g => if g = f then some (fun h' a => if h' = h ∧ a = args then some (v, H.objs, H.next) else none) else none

theorem askT_ok {f : FuncId} {args : List AV} {h : AHeap} {v : AV} {H : AHeap} (k : AskOk P f args h v H) : @XTOk P ⟨askT f args h v H⟩ :=
  @XTOk.mk P ⟨askT f args h v H⟩ fun g F e => by
    change askT f args h v H g = some F at e
    unfold askT at e
    split at e
    · rename_i hg
      cases e
      subst hg
      intro B R h' w a a' v' o' n' e hh hB ha
      dsimp only at e
      split at e
      · rename_i hc
        obtain ⟨rfl, rfl⟩ := hc
        cases e
        exact k B R w a' hh hB ha
      · cases e
    · cases e

open Classical in
theorem AskK_goal [XT P] [XTOk P] (hmix : P.follows .mixedOrders = true) {keep : Nat} {f0 : FuncId} {Q : AV → AHeap → Prop} {v : AV} {H : AHeap} {m : AM} {K : AM → Prop} (e : AskK P v H m K) (hK : ∀ m, K m → Goal P keep f0 Q m) : Goal P keep f0 Q m := by
  obtain ⟨fr, rest, h⟩ := m
  unfold AskK at e
  simp only at e
  split at e
  rotate_left
  · exact e.elim
  rename_i hm
  split at e
  · exact e.elim
  rename_i all op ho
  split at e
  rotate_left
  · exact e.elim
  rename_i hw
  split at e
  rotate_left
  · exact e.elim
  rename_i f args h0 hop
  obtain ⟨k, e⟩ := e
  obtain ⟨m', h1, h2⟩ := Upon_some e
  refine @Goal.step P ⟨askT f args h0 v H⟩ (askT_ok k) hmix keep f0 Q _ m' ?_ (hK _ h2)
  rw [@topOp_step P ⟨askT f args h0 v H⟩ (askT_ok k) fr rest h all op hm ho]
  simp only [operA, hw, hop, uponO]
  change topM rest _ (finishA P fr _ v) = some m' at h1
  have ht : askT f args h0 v H f = some (fun h' a => if h' = h0 ∧ a = args then some (v, H.objs, H.next) else none) := if_pos rfl
  have hx : @calledX P ⟨askT f args h0 v H⟩ h0 f args = some (v, ⟨H.objs, H.next, h0.glob⟩) := by
    show (match askT f args h0 v H f with
      | none => none
      | some F => match F h0 args with
        | none => none
        | some (v, o, n) => some (v, (⟨o, n, h0.glob⟩ : AHeap))) = _
    rw [ht]
    simp only [and_self, if_true]
  show (match @calledX P ⟨askT f args h0 v H⟩ h0 f args with
    | none => topM (fr :: rest) h0 (enterA P f args .normal)
    | some (v, h') => topM rest h' (finishA P fr h' v)) = some m'
  rw [hx]
  exact h1

theorem ldW_ok {h : AHeap} {t : TypeId} {v p : AV} {r : AR} {q : Prop} (e : ldW P h t v p = some (r, q)) (hq : q) : valE h (loadA P h t p) = some r := by
  unfold ldW at e
  split at e
  rotate_left
  · cases e
  unfold loadA
  simp only
  split at e
  · cases e
  · rename_i ht
    simp only [ht]
    split at e
    rotate_left
    · cases e
    split at e
    · cases e
    rename_i i hi
    cases e
    simp only [hi, hq]
    rfl
  · rename_i ht
    simp only [ht]
    cases e
    rw [hq]
    rfl

theorem stW_ok {h : AHeap} {t : TypeId} {O : T AObj} {p v : AV} {r : AR} {q : Prop} (e : stW P h t O p v = some (r, q)) (hq : q) : skipH (storeA P h t p v) = some r := by
  unfold stW at e
  split at e
  rotate_left
  · cases e
  unfold storeA
  simp only
  split at e
  · cases e
  rename_i i hi
  simp only [hi]
  split at e
  · cases e
  rename_i hn
  cases e
  rw [if_pos (Nat.eq_of_beq_eq_true hn), hq]
  rfl

theorem nwW_ok {h : AHeap} {t : TypeId} {O : T AObj} {z : AV} {r : AR} {q : Prop} (e : nwW P h t O z = some (r, q)) (hq : q) : valH (boxA P h t z) = some r := by
  unfold nwW at e
  split at e
  · cases e
  rename_i n hn
  split at e
  · cases e
  rename_i hb
  cases e
  rw [Bool.and_eq_true] at hb
  unfold boxA
  rw [if_pos ⟨hb.2, by rw [hn, Nat.eq_of_beq_eq_true hb.1]⟩]
  subst hq
  rfl

theorem ldW_val {h h' : AHeap} {t : TypeId} {v p u : AV} {r : AR} {q : Prop} (e : ldW P h t v p = some (r, q)) (hr : r = .val u h') : u = v := by
  subst hr
  unfold ldW at e
  split at e
  rotate_left
  · cases e
  split at e
  · cases e
  · split at e
    rotate_left
    · cases e
    split at e
    · cases e
    cases e
    rfl
  · cases e
    rfl

theorem ReadsH_ok {ρ : Operand → Option AV} {h : AHeap} {o : Op} {v : AV} {K : Prop} (e : ReadsH P ρ h o v K) : readA P ρ h o = some v ∧ K := by
  unfold ReadsH at e
  split at e
  · rename_i t a
    split at e
    · rename_i id ver off ha
      split at e
      · exact e.elim
      · rename_i r q hq
        obtain ⟨hp, hk⟩ := e
        refine ⟨?_, hk⟩
        have := ldW_ok hq hp
        unfold valE at this
        split at this
        · cases this
        rename_i u hu
        cases this
        obtain rfl := ldW_val hq rfl
        unfold readA
        show (match op_load P t a ρ h with | some (.val v _) => some v | _ => none) = _
        simp only [op_load, one', ha, hu, valE]
    · exact e
  · exact e

theorem Same1H_ok {all : List Oper} {t : T AV} {h : AHeap} {o : Oper} {K : Prop} (e : Same1H P all t h o K) : recheck1 P all t h o = true ∧ K := by
  unfold Same1H at e
  unfold recheck1
  split at e
  · exact e.elim
  · rename_i w hw
    rw [hw]
    split at e
    · exact ⟨rfl, e⟩
    · split at e
      · rename_i hd; simp only [hd]; exact e
      · rename_i d hd
        simp only [hd]
        split at e
        · exact e.elim
        · rename_i v hv
          obtain ⟨h1, h2⟩ := ReadsH_ok e
          obtain ⟨h3, h4⟩ := andIf_true h2
          rw [hv, h1]
          exact ⟨okD_same 300 v h3, h4⟩

theorem SameH_ok {all : List Oper} {anc : Nat} {t : T AV} {h : AHeap} : ∀ {dn : List Nat} {K : Prop}, SameH P all anc t h dn K → recheck P all anc t h dn = true ∧ K
  | [], K, e => ⟨rfl, e⟩
  | p :: r, K, e => by
    unfold SameH at e
    unfold recheck
    rw [Bool.and_eq_true]
    split at e
    · rename_i hp
      obtain ⟨g1, g2⟩ := SameH_ok e
      rw [hp]
      exact ⟨⟨rfl, g1⟩, g2⟩
    · rename_i o hp
      rw [hp]
      unfold recheckO
      simp only
      split at e
      · rename_i hr
        obtain ⟨g1, g2⟩ := SameH_ok e
        rw [hr]
        exact ⟨⟨rfl, g1⟩, g2⟩
      · rename_i hr
        obtain ⟨q1, q2⟩ := Same1H_ok e
        obtain ⟨g1, g2⟩ := SameH_ok q2
        rw [hr]
        exact ⟨⟨q1, g1⟩, g2⟩

theorem FinH_some {fr : AFrame} {h : AHeap} {v : AV} {K : AFrame → Prop} (e : FinH P fr h v K) : ∃ a, finishA P fr h v = some a ∧ K a := by
  unfold FinH at e
  split at e
  · rename_i all i l dn k htodo
    split at e
    · exact e.elim
    · rename_i o ho
      unfold finishA
      rw [htodo]
      simp only [ho]
      unfold FinDrwH at e
      unfold finDrw
      split at e
      · exact e.elim
      · rename_i t ht
        rw [ht]
        obtain ⟨fn, n, t0, td, ds, mode, kind, round⟩ := fr
        simp only at e ⊢
        split at e
        · rename_i hf
          rw [hf]
          exact ⟨_, rfl, e⟩
        · rename_i hf
          obtain ⟨g1, g2⟩ := SameH_ok e
          rw [hf, g1]
          exact ⟨_, rfl, g2⟩
  · exact optK_some e

theorem UponH_some [XT P] [XTOk P] {fr : AFrame} {rest : List AFrame} {heap : AHeap} {r : AR} {K : AM → Prop} (e : UponH P fr rest heap r K) : ∃ m, upon P fr rest heap r = some m ∧ K m := by
  unfold UponH at e
  split at e
  · obtain ⟨a, h1, h2⟩ := FinH_some e
    exact ⟨_, by simp only [upon, h1, topM], h2⟩
  · obtain ⟨a, h1, h2⟩ := FinH_some e
    exact ⟨_, by simp only [upon, h1, topM], h2⟩
  · exact optK_some e

theorem hopnW_ok {ρ : Operand → Option AV} {h : AHeap} {v : AV} {O : T AObj} {n : Nat} {o : Op} {r : AR} {p : Prop} (e : hopnW P ρ h v O n o = some (r, p)) (hp : p) : opA P ρ h o = some r := by
  unfold hopnW at e
  split at e
  · rename_i c
    split at e
    · cases e
    rename_i args ha
    split at e
    · rename_i b hb
      split at e
      · cases e
      rename_i hr
      cases e
      show callOpA P ρ h c = _
      unfold callOpA
      simp only [ha, hb]
      unfold builtinA
      simp only [hr, hp]
    · cases e
  · split at e
    · cases e
      subst hp
      rfl
    · cases e
  · rename_i t k parts
    split at e
    · cases e
    rename_i l hl
    cases e
    show buildSliceE P h t k (partsA ρ parts.toList) = _
    unfold buildSliceE
    simp only [hl, hp]
    rfl
  · rename_i t l c
    split at e
    · cases e
    rename_i a ha
    split at e
    · cases e
    rename_i b hb
    cases e
    show two ρ l c (fun a b => valH (makeSliceA P h t a b)) = _
    unfold two
    simp only [ha, hb, hp]
    rfl
  · rename_i s d x
    split at e
    · cases e
    rename_i hd
    split at e
    · cases e
    rename_i a ha
    cases e
    show one' ρ x (fun v => convE P h s d v) = _
    unfold one' convE
    simp only [ha, hd, hp]
    rfl
  · cases e

theorem retW_ok {h : AHeap} {t : T AV} : ∀ {rs : List ResultVar} {vs l : List AV} {q : Prop}, retW P h t rs vs = some (l, q) → q → resListA P h t rs = some l
  | [], _, _, _, e, _ => by
    unfold retW at e
    cases e
    rfl
  | x :: r, vs, l, q, e, hq => by
    unfold retW at e
    split at e
    · cases e
    rename_i v vs
    split at e
    · cases e
    rename_i l' q' hr
    unfold resListA
    split at e
    · split at e
      · cases e
      rename_i u hu
      cases e
      simp only [hu, retW_ok hr hq]
      rfl
    · split at e
      · cases e
      rename_i p hp
      split at e
      rotate_left
      · cases e
      rename_i u h' p' hl
      cases e
      have := ldW_ok hl hq.1
      simp only [hp, retW_ok hr hq.2]
      unfold valE at this
      split at this
      · cases this
      rename_i u' hu'
      cases this
      unfold loadO
      simp only [hu']
      rfl

theorem hopW_ok {ρ : Operand → Option AV} {h : AHeap} {v : AV} {O : T AObj} {o : Op} {r : AR} {p : Prop} (e : hopW P ρ h v O o = some (r, p)) (hp : p) : opA P ρ h o = some r := by
  unfold hopW at e
  split at e
  · rename_i t a
    split at e
    · cases e
    rename_i q hq
    show one' ρ a (fun p => valE h (loadA P h t p)) = some r
    unfold one'
    simp only [hq]
    exact ldW_ok e hp
  · rename_i t a x
    split at e
    · cases e
    rename_i q hq
    split at e
    · cases e
    rename_i y hy
    show two ρ a x (fun p v => skipH (storeA P h t p v)) = some r
    unfold two
    simp only [hq, hy]
    exact stW_ok e hp
  · rename_i t
    split at e
    · cases e
    rename_i z hz
    show allocA P h t (zeroA P t) = some r
    unfold allocA
    simp only [hz]
    exact nwW_ok e hp
  · rename_i t x
    split at e
    · cases e
    rename_i z hz
    show one' ρ x (fun v => valH (boxA P h t v)) = some r
    unfold one'
    simp only [hz]
    exact nwW_ok e hp
  · rename_i t m k ok
    split at e
    · cases e
    rename_i a ha
    split at e
    · cases e
    rename_i b hb
    cases e
    show two ρ m k (fun a b => valE h (lookupA P h t a b ok)) = _
    unfold two
    simp only [ha, hb, hp]
    rfl
  · rename_i t m k x
    split at e
    · cases e
    rename_i a ha
    split at e
    · cases e
    rename_i b hb
    split at e
    · cases e
    rename_i c hc
    cases e
    show mapPutE P ρ h t m k x = _
    unfold mapPutE
    simp only [ha, hb, hc, hp]
    rfl
  · rename_i op t x y u
    split at e
    · cases e
    rename_i a ha
    split at e
    · cases e
    rename_i b hb
    cases e
    show two ρ x y (fun a b => valE h (binA P h op t (isConstO x || isConstO y) a b)) = _
    unfold two
    simp only [ha, hb, hp]
    rfl
  · rename_i t x lo hi mx
    split at e
    · cases e
    rename_i a ha
    split at e
    · cases e
    rename_i l hl
    split at e
    · cases e
    rename_i hh hhh
    split at e
    · cases e
    rename_i m hm
    cases e
    show valE h (sliceOp P ρ h t x lo hi mx) = _
    unfold sliceOp
    simp only [ha, hl, hhh, hm, hp]
    rfl
  · rename_i c
    split at e
    · cases e
    rename_i args ha
    split at e
    · rename_i b hb
      split at e
      · cases e
      rename_i hr
      cases e
      show callOpA P ρ h c = _
      unfold callOpA
      simp only [ha, hb]
      unfold builtinA
      simp only [hr, hp]
    · cases e
  · cases e

theorem Obl.goal [XT P] [XTOk P] (hmix : P.follows .mixedOrders = true) {f0 : FuncId} {Q : AV → AHeap → Prop} {keep : Nat} {K : AM → Prop} (hK : ∀ m, K m → Goal P keep f0 Q m) : ∀ {l : List Cmd} {m : AM}, Obl P f0 Q keep K l m → Goal P keep f0 Q m
  | [], m, e => hK m e
  | c :: r, m, e => by
    have ih := fun m (e : Obl P f0 Q keep K r m) => Obl.goal hmix hK (l := r) (m := m) e
    cases c with
    | run n =>
      obtain ⟨m', h1, h2⟩ := optK_some e
      exact .runN hmix h1 (ih _ h2)
    | br b =>
      obtain ⟨fr, rest, h⟩ := m
      change Br b ⟨fr, rest, h⟩ (Obl P f0 Q keep K r) at e
      unfold Br at e
      simp only at e
      split at e
      rotate_left
      · exact e.elim
      rename_i hm
      split at e
      rotate_left
      · exact e.elim
      rename_i c x y k htodo
      split at e
      rotate_left
      · exact e.elim
      rename_i t ht
      obtain ⟨rfl, e⟩ := e
      refine .step hmix ?_ (ih _ e)
      simp only [stepA, hm, execA, htodo]
      show condA fr rest h x y k (ev fr.tmps c) = _
      rw [ht]
      cases t <;> rfl
    | know u b =>
      obtain ⟨⟨fn, n, t, todo, ds, mode, kind, round⟩, rest, h⟩ := m
      change Know u b ⟨⟨fn, n, t, todo, ds, mode, kind, round⟩, rest, h⟩ (Obl P f0 Q keep K r) at e
      unfold Know at e
      simp only at e
      split at e
      · rename_i c hc
        obtain ⟨rfl, e⟩ := e
        rw [T.set_same' hc] at e
        exact ih _ e
      · exact e.elim
    | slot u v =>
      obtain ⟨⟨fn, n, t, todo, ds, mode, kind, round⟩, rest, h⟩ := m
      change Slot u v ⟨⟨fn, n, t, todo, ds, mode, kind, round⟩, rest, h⟩ (Obl P f0 Q keep K r) at e
      unfold Slot at e
      simp only at e
      split at e
      · rename_i c hc
        obtain ⟨rfl, e⟩ := e
        rw [T.set_same' hc] at e
        exact ih _ e
      · exact e.elim
    | op =>
      obtain ⟨fr, rest, h⟩ := m
      change OpK P ⟨fr, rest, h⟩ (Obl P f0 Q keep K r) at e
      unfold OpK at e
      simp only at e
      split at e
      rotate_left
      · exact e.elim
      rename_i hm
      split at e
      · exact e.elim
      rename_i all o ho
      split at e
      rotate_left
      · exact e.elim
      rename_i hw
      split at e
      · exact e.elim
      rename_i ar p hop
      obtain ⟨hp, e⟩ := e
      obtain ⟨m', h1, h2⟩ := Upon_some e
      refine .step hmix ?_ (ih _ h2)
      rw [topOp_step hm ho]
      simp only [operA, hw, opS_ok hop hp, uponO, h1]
    | res x =>
      obtain ⟨fr, rest, h⟩ := m
      change ResK P x ⟨fr, rest, h⟩ (Obl P f0 Q keep K r) at e
      unfold ResK at e
      simp only at e
      split at e
      rotate_left
      · exact e.elim
      rename_i hm
      split at e
      · exact e.elim
      rename_i all o ho
      split at e
      rotate_left
      · exact e.elim
      rename_i hw
      obtain ⟨hp, e⟩ := e
      obtain ⟨m', h1, h2⟩ := Upon_some e
      refine .step hmix ?_ (ih _ h2)
      rw [topOp_step hm ho]
      simp only [operA, hw, hp, uponO, h1]
    | ext x =>
      obtain ⟨fr, rest, h⟩ := m
      change ExtK P x ⟨fr, rest, h⟩ (Obl P f0 Q keep K r) at e
      unfold ExtK at e
      simp only at e
      split at e
      rotate_left
      · exact e.elim
      rename_i hm
      split at e
      · exact e.elim
      rename_i all o ho
      split at e
      rotate_left
      · exact e.elim
      rename_i hw
      split at e
      · exact e.elim
      rename_i ar p hop
      obtain ⟨hp, e⟩ := e
      obtain ⟨m', h1, h2⟩ := Upon_some e
      refine .step hmix ?_ (ih _ h2)
      rw [topOp_step hm ho]
      simp only [operA, hw, extW_ok hop hp, uponO, h1]
    | hop x y =>
      obtain ⟨fr, rest, h⟩ := m
      change HopK P x y ⟨fr, rest, h⟩ (Obl P f0 Q keep K r) at e
      unfold HopK at e
      simp only at e
      split at e
      rotate_left
      · exact e.elim
      rename_i hm
      split at e
      · exact e.elim
      rename_i all o ho
      split at e
      rotate_left
      · exact e.elim
      rename_i hw
      split at e
      · exact e.elim
      rename_i ar p hop
      obtain ⟨hp, e⟩ := e
      obtain ⟨m', h1, h2⟩ := UponH_some e
      refine .step hmix ?_ (ih _ h2)
      rw [topOp_step hm ho]
      simp only [operA, hw, hopW_ok hop hp, uponO, h1]
    | hopn x y z =>
      obtain ⟨fr, rest, h⟩ := m
      change HopnK P x y z ⟨fr, rest, h⟩ (Obl P f0 Q keep K r) at e
      unfold HopnK at e
      simp only at e
      split at e
      rotate_left
      · exact e.elim
      rename_i hm
      split at e
      · exact e.elim
      rename_i all o ho
      split at e
      rotate_left
      · exact e.elim
      rename_i hw
      split at e
      · exact e.elim
      rename_i ar p hop
      obtain ⟨hp, e⟩ := e
      obtain ⟨m', h1, h2⟩ := UponH_some e
      refine .step hmix ?_ (ih _ h2)
      rw [topOp_step hm ho]
      simp only [operA, hw, hopnW_ok hop hp, uponO, h1]
    | isv x =>
      obtain ⟨fr, rest, h⟩ := m
      change BinVK P x ⟨fr, rest, h⟩ (Obl P f0 Q keep K r) at e
      unfold BinVK at e
      simp only at e
      split at e
      rotate_left
      · exact e.elim
      rename_i hm
      split at e
      · exact e.elim
      rename_i all o ho
      split at e
      rotate_left
      · exact e.elim
      rename_i hw
      obtain ⟨p, hpe, hp, e⟩ := optK_some e
      obtain ⟨m', h1, h2⟩ := Upon_some e
      refine .step hmix ?_ (ih _ h2)
      rw [topOp_step hm ho]
      have hop : opA P (ev fr.tmps) h o.op = some (.val x h) := by
        unfold binV at hpe
        split at hpe
        rotate_left
        · cases hpe
        rename_i op t a b t' hoo
        split at hpe
        · cases hpe
        rename_i v1 hv1
        split at hpe
        · cases hpe
        rename_i v2 hv2
        cases hpe
        rw [hoo]
        show op_binOp P op t a b t' (ev fr.tmps) h = _
        simp only [op_binOp, two, hv1, hv2, hp h, valE]
      simp only [operA, hw, hop, uponO, h1]
    | step =>
      obtain ⟨fr, rest, h⟩ := m
      change StepK P ⟨fr, rest, h⟩ (Obl P f0 Q keep K r) at e
      unfold StepK at e
      simp only at e
      split at e
      · rename_i hm
        split at e
        · exact e.elim
        rename_i all o ho
        split at e
        rotate_left
        · exact e.elim
        rename_i hw
        obtain ⟨ar, hr, e⟩ := optK_some e
        obtain ⟨m', h1, h2⟩ := Upon_some e
        refine .step hmix ?_ (ih _ h2)
        rw [topOp_step hm ho]
        simp only [operA, hw, hr, uponO, h1]
      · rename_i hm
        split at e
        rotate_left
        · exact e.elim
        rename_i hdef
        split at e
        rotate_left
        · exact e.elim
        rename_i hkind
        split at e
        · exact e.elim
        rename_i c r'
        split at e
        rotate_left
        · exact e.elim
        rename_i hcm
        obtain ⟨v, hv, e⟩ := optK_some e
        obtain ⟨c', h1, h2⟩ := Fin_some e
        refine .step hmix ?_ (ih _ h2)
        simp only [stepA, hm, unwindA, hdef, hv, returnO, hkind, returnA, hcm, h1, topM]
      · exact e.elim
    | hret vs =>
      obtain ⟨fr, rest, h⟩ := m
      change HRetK P vs ⟨fr, rest, h⟩ (Obl P f0 Q keep K r) at e
      unfold HRetK at e
      simp only at e
      split at e
      rotate_left
      · exact e.elim
      rename_i hm
      split at e
      rotate_left
      · exact e.elim
      rename_i hdef
      split at e
      rotate_left
      · exact e.elim
      rename_i hkind
      split at e
      · exact e.elim
      rename_i c r'
      split at e
      rotate_left
      · exact e.elim
      rename_i hcm
      split at e
      · exact e.elim
      rename_i fn hfn
      split at e
      · exact e.elim
      rename_i l q hl
      obtain ⟨hq, e⟩ := e
      obtain ⟨v, hv, e⟩ := optK_some e
      obtain ⟨c', h1, h2⟩ := FinH_some e
      have hres : resA P fr h = some v := by
        unfold resA
        simp only [hfn, retW_ok hl hq, hv]
      refine .step hmix ?_ (ih _ h2)
      simp only [stepA, hm, unwindA, hdef, hres, returnO, hkind, returnA, hcm, h1, topM]
    | keep us => exact KeepK_goal e ih
    | can k ids us uss =>
      change (bif Nat.ble keep k then CanP k ids us uss m (Obl P f0 Q keep K r) else False) at e
      cases hb : Nat.ble keep k with
      | false => rw [hb] at e; exact e.elim
      | true =>
        rw [hb] at e
        exact CanP_goal (Nat.le_of_ble_eq_true hb) e ih
    | call us q => exact CallK_goal e ih
    | callv us v => exact CallK_goal (CallV_call e) ih
    | callh l us v H => exact CallH_goal e ih
    | told id c n => exact ToldK_goal e ih
    | tolds u p id c n => exact ToldSK_goal e ih
    | cap id k => exact CapK_goal e ih
    | bytes l =>
      obtain ⟨fr, rest, h⟩ := m
      change BytesK P l ⟨fr, rest, h⟩ (Obl P f0 Q keep K r) at e
      unfold BytesK at e
      simp only at e
      split at e
      rotate_left
      · exact e.elim
      rename_i hm
      split at e
      · exact e.elim
      rename_i all o ho
      split at e
      rotate_left
      · exact e.elim
      rename_i hw
      obtain ⟨p, hp, hp1, e⟩ := optK_some e
      obtain ⟨m', h1, h2⟩ := Upon_some e
      refine .step hmix ?_ (ih _ h2)
      rw [topOp_step hm ho]
      simp only [operA, hw, bytesOp_ok hp hp1, uponO, h1]
    | opw b => exact OpWK_goal e ih
    | ask v H => exact AskK_goal hmix e ih
    | done => exact DoneK_goal e

end

end Go.Proofs.Ytcdpmiebmhjmpaa.Ev
