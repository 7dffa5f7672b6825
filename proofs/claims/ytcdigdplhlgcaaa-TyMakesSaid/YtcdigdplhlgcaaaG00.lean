import GoSem.Dispatch
import GoSem.Step
import Derived.Lib.Bytealg
import Derived.Laws.Sem
import Derived.Laws.World
import Derived.Below
import Derived.Laws.Strings
section
namespace Go.Proofs.Ytcdigdplhlgcaaa.Ev
open Go
set_option maxRecDepth 4000
noncomputable section
inductive T (α:Type) where
 | leaf
 | node (l:T α) (v:Option α) (r:T α)
 | fn (f:Nat→Option α)
namespace T
noncomputable def get {α:Type} (t:T α):Nat→Option α :=
 T.rec (motive:=fun _=>Nat→Option α) (fun _=>none)
  (fun _ v _ ihl ihr n=>bif Nat.beq n 0 then v else bif Nat.beq (Nat.mod n 2) 1 then ihl (Nat.div n 2) else ihr (Nat.sub (Nat.div n 2) 1)) (fun f n=>f n) t
noncomputable def one {α:Type} (x:Option α) (fuel:Nat):Nat→T α :=
 Nat.rec (motive:=fun _=>Nat→T α) (fun _=>leaf)
  (fun _ ih n=>bif Nat.beq n 0 then node leaf x leaf else bif Nat.beq (Nat.mod n 2) 1 then node (ih (Nat.div n 2)) none leaf else node leaf none (ih (Nat.sub (Nat.div n 2) 1))) fuel
noncomputable def seq {α β:Type} (t:T α) (f:T α→β):β:=T.rec (motive:=fun _=>β) (f leaf) (fun l v r _ _=>f (node l v r)) (fun g=>f (fn g)) t
noncomputable def set {α:Type} (x:Option α) (t:T α):Nat→T α :=
 T.rec (motive:=fun _=>Nat→T α) (fun n=>one x (Nat.succ n) n)
  (fun l v r ihl ihr n=>bif Nat.beq n 0 then node l x r else bif Nat.beq (Nat.mod n 2) 1 then seq (ihl (Nat.div n 2)) (fun l=>node l v r) else seq (ihr (Nat.sub (Nat.div n 2) 1)) (fun r=>node l v r)) (fun f n=>fn (fun m=>bif Nat.beq m n then x else f m)) t
end T
inductive AV where
 | bool (b:Bool)
 | int (k:IntKind) (n:Int)
 | str (s:List UInt8)
 | nilp
 | ptr (id ver off:Nat)
 | gp (g off:Nat)
 | nils (len cap:Nat)
 | slc (id ver off len cap:Nat)
 | slg (id ver off len st:Nat)
 | nilm
 | mp (id:Nat)
 | nilf
 | fn (f:Fn) (first captured:List AV)
 | yld (id:Nat)
 | nili
 | ifc (t:TypeId) (v:AV)
 | agg (cells:List AV)
 | tup (vs:List AV)
 | sle
 | unk
 deriving Inhabited
structure AEntry where
 key:AV
 val:AV
 born:Nat
inductive ATgt where
 | fn (f:Fn) (captured:List AV)
 | nil
 | collected (id:Nat)
structure ADef where
 tgt:ATgt
 args:List AV
structure ALoop where
 state:LoopState
 pending:Option Code
 fn:FuncId
 n:Nat
 tmps:T AV
 params:Array Tmp
 assign:Code
 body:Code
 defers:Nat
inductive AObj where
 | cells (c:T AV) (n:Nat) (elem:TypeId) (lo hi nv fz:Nat) (sg:Bool) (ex:T Nat)
 | map (es:List AEntry) (clock:Nat)
 | iter (s:List UInt8) (pos:Nat)
 | loop (l:ALoop)
 | dfrd (ds:Option (List ADef))
 | ro (c:T AV) (lo n:Nat)
structure AHeap where
 objs:T AObj
 next:Nat
 glob:T (T AV)
namespace AHeap
def get (h:AHeap) (id:Nat):Option AObj:=h.objs.get id
def put (h:AHeap) (id:Nat) (o:AObj):AHeap:=match h with
 | ⟨objs,next,glob⟩=>⟨objs.set (some o) id,next,glob⟩
def new (h:AHeap) (o:AObj):AHeap:=match h with
 | ⟨objs,next,glob⟩=>⟨objs.set (some o) next,next+1,glob⟩
end AHeap
def AV.cells:AV→List AV
 | .agg cs=>cs
 | v=>[v]
def zmP {α β:Type} (f:α→Option β):List α→List β→Option (List β)
 | [],acc=>some acc.reverse
 | a::r,acc=>match f a with
  | none=>none
  | some b=>zmP f r (b::acc)
def qD {α β:Type} (f:α→Option β) (l:List α):Option (List β):=zmP f l []
def jG:Nat→Value→Option AV
 | 0,_=>none
 | n+1,v=>match v with
  | .bool b=>some (.bool b)
  | .int k n=>some (.int k n)
  | .string s=>some (.str s.data.toList)
  | .pointer none=>some .nilp
  | .slice none l c=>some (.nils l c)
  | .map none=>some .nilm
  | .nilFunc=>some .nilf
  | .nilIface=>some .nili
  | .iface t v=>(jG n v).map (.ifc t)
  | .agg cs=>(qD (jG n) cs.toList).map .agg
  | .tuple cs=>(qD (jG n) cs.toList).map .tup
  | .func f fs cs=>match f with
   | .yield _=>none
   | _=>match qD (jG n) fs.toList,qD (jG n) cs.toList with
    | some fs,some cs=>some (.fn f fs cs)
    | _,_=>none
  | _=>none
def xE:AV:=.tup []
mutual
def wJ:Nat→AV→AV→Bool
 | 0,_,_=>false
 | n+1,x,y=>match x,y with
  | .bool a,.bool b=>a==b
  | .int j a,.int k b=>decide (j=k)&&decide (a=b)
  | .str a,.str b=>decide (a=b)
  | .nilp,.nilp=>true
  | .ptr a b c,.ptr a' b' c'=>Nat.beq a a'&&Nat.beq b b'&&Nat.beq c c'
  | .gp a b,.gp a' b'=>Nat.beq a a'&&Nat.beq b b'
  | .nils a b,.nils a' b'=>Nat.beq a a'&&Nat.beq b b'
  | .slc a b c d e,.slc a' b' c' d' e'=>Nat.beq a a'&&Nat.beq b b'&&Nat.beq c c'&&Nat.beq d d'&&Nat.beq e e'
  | .slg a b c d e,.slg a' b' c' d' e'=>Nat.beq a a'&&Nat.beq b b'&&Nat.beq c c'&&Nat.beq d d'&&Nat.beq e e'
  | .nilm,.nilm=>true
  | .mp a,.mp b=>Nat.beq a b
  | .nilf,.nilf=>true
  | .fn f a b,.fn g c d=>decide (f=g)&&vR n a c&&vR n b d
  | .yld a,.yld b=>Nat.beq a b
  | .nili,.nili=>true
  | .ifc t v,.ifc u w=>Nat.beq t u&&wJ n v w
  | .agg a,.agg b=>vR n a b
  | .tup a,.tup b=>vR n a b
  | .sle,.sle=>true
  | .unk,.unk=>true
  | _,_=>false
def vR:Nat→List AV→List AV→Bool
 | 0,_,_=>false
 | n+1,x,y=>match x,y with
  | [],[]=>true
  | a::r,b::s=>wJ n a b&&vR n r s
  | _,_=>false
end
def ev (t:T AV):Operand→Option AV
 | .tmp i=>t.get i
 | .const v=>jG 9 v
 | .global g=>some (.gp g 0)
 | .func f=>some (.fn (.func f) [] [])
def AV.one:AV→Bool
 | .agg _ | .tup _=>false
 | _=>true
section
variable (P:Program)
def qj (t:TypeId):Option AV:=match P.info? t with
 | none=>none
 | some i=>match i.zero with
  | none=>none
  | some v=>jG 9 v
def zmY (t:TypeId):Option Bool:=match P.underlying t with
 | none=>none
 | some (.struct _) | some (.array _ _)=>some true
 | some _=>some false
def zb3 (t:TypeId) (cs:List AV) (off:Nat):Option AV:=match zmY P t with
 | none=>none
 | some true=>match P.info? t with
  | none=>none
  | some i=>some (.agg ((cs.drop off).take i.size))
 | some false=>cs[off]?
def zG (ex:T Nat) (n hi ver:Nat):Option Nat:=if ver=hi then some n else ex.get ver
def zd6 (c:T AV) (off:Nat):Nat→List AV→Option (List AV)
 | 0,acc=>some acc
 | k+1,acc=>match c.get (off+k) with
  | none=>none
  | some v=>zd6 c off k (v::acc)
def zV (c:T AV) (off k:Nat):Option (List AV):=zd6 c off k []
def zd (c:T AV) (off:Nat):List AV→T AV
 | []=>c
 | v::r=>(c.set (some v) off).seq fun c=>zd c (off+1) r
def zb (h:AHeap) (id ver off k:Nat):Option (List AV):=match h.get id with
 | some (.cells c n _ lo hi _ _ _ ex)=>match zG ex n hi ver with
  | none=>none
  | some e=>if lo≤ver∧ver≤hi∧off+k≤e then zV c off k else none
 | some (.ro c lo n)=>if ver=0∧lo≤off∧off+k≤n then zV c off k else none
 | _=>none
def zc (h:AHeap) (id ver off:Nat) (vs:List AV):Option AHeap:=match h.get id with
 | some (.cells c n el lo hi nv fz sg ex)=>match zG ex n hi ver with
  | none=>none
  | some e =>
   if lo≤ver∧ver≤hi∧off+vs.length≤e∧fz≤off∧vs.all AV.one=true then
    (zd c off vs).seq fun c=>some (h.put id (.cells c e el ver ver nv fz sg ex))
   else none
 | _=>none
def zaK (h:AHeap) (t:TypeId):AV→Option AV
 | .ptr id ver off=>match zmY P t with
  | none=>none
  | some true=>match P.info? t with
   | none=>none
   | some i=>match zb h id ver off i.size with
    | none=>none
    | some l=>some (.agg l)
  | some false=>match zb h id ver off 1 with
   | some [v]=>some v
   | _=>none
 | .gp g off=>match h.glob.get g with
  | none=>none
  | some c=>match zmY P t with
   | none=>none
   | some true=>match P.info? t with
    | none=>none
    | some i=>match zV c off i.size with
     | none=>none
     | some l=>some (.agg l)
   | some false=>c.get off
 | _=>none
def kG (h:AHeap) (t:TypeId) (p v:AV):Option AHeap:=match p with
 | .ptr id ver off=>match P.info? t with
  | none=>none
  | some i=>if v.cells.length=i.size then zc h id ver off v.cells else none
 | _=>none
def xu (h:AHeap) (el:TypeId) (l:List AV) (sg:Bool):AHeap :=
 h.new (.cells (zd .leaf 0 l) l.length el 0 0 1 0 sg .leaf)
def xW (t:TypeId):Option Nat:=match P.info? t with
 | none=>none
 | some i=>some i.size
def zjL (h:AHeap) (el:TypeId) (v:AV):Option (AV × AHeap) :=
 if v.cells.all AV.one=true∧xW P el=some v.cells.length then some (.ptr h.next 0 0,xu h el v.cells false) else none
def j0 (cells:List AV) (off:Nat) (vs:List AV):List AV:=cells.take off++vs++cells.drop (off+vs.length)
def zd3 (place:Nat→Option (Nat × Nat)) (cells:List AV):List (Nat × AV)→Option (List AV)
 | []=>some cells
 | (i,v)::rest=>match place i with
  | none=>none
  | some (off,size) =>
   if v.cells.length=size∧off+size≤cells.length then zd3 place (j0 cells off v.cells) rest else none
def yU:List Field→Option (List (Nat × Nat))
 | []=>some []
 | f::r=>match P.info? f.type with
  | none=>none
  | some i=>match yU r with
   | none=>none
   | some l=>some ((f.offset,i.size)::l)
def qa (t:TypeId) (parts:List (Nat × AV)):Option AV:=match qj P t with
 | none=>none
 | some z=>match P.underlying t with
  | some (.struct fs)=>match yU P fs.toList with
   | none=>none
   | some pl=>(zd3 (fun i=>pl[i]?) z.cells parts).map .agg
  | some (.array _ el)=>match P.info? el with
   | none=>none
   | some i=>(zd3 (fun k=>some (k*i.size,i.size)) z.cells parts).map .agg
  | _=>none
def zC (l:List AV):Nat→List AV
 | 0=>[]
 | n+1=>l++zC l n
def zg (h:AHeap) (t:TypeId) (len:Nat) (parts:List (Nat × AV)):Option (AV × AHeap):=match P.underlying t with
 | some (.slice el)=>match P.info? el with
  | none=>none
  | some i =>
   if len*i.size≤2 ^ 24 then
    match qj P el with
    | none=>none
    | some z =>
     if z.cells.length=i.size∧0<i.size then
      match zd3 (fun k=>some (k*i.size,i.size)) (zC z.cells len) parts with
      | none=>none
      | some cells=>if cells.all AV.one then some (.slc h.next 0 0 len len,xu h el cells false) else none
     else none
   else none
 | _=>none
def zkN (k:IntKind) (r:BitVec k.bits):Option AV:=some (.int k (k.wrap r.toNat))
def zi3 (k:IntKind) (n:Int):Option AV:=some (.int k (k.wrap n))
def quoA (k:IntKind) (a b:Int):Option AV:=if b=0 then none else some (.int k (k.wrap (a.tdiv b)))
def remA (k:IntKind) (a b:Int):Option AV:=if b=0 then none else some (.int k (a.tmod b))
def shlA (k:IntKind) (a b:Int):Option AV:=if b<0 then none else some (.int k (k.wrap (a*2 ^ (min b.toNat k.bits))))
def shrA (k:IntKind) (a b:Int):Option AV:=if b<0 then none else some (.int k (a.fdiv (2 ^ (min b.toNat k.bits))))
def qb (b:Bool):Option AV:=some (.bool b)
def andA (k:IntKind) (a b:Int):Option AV:=zkN k (BitVec.ofInt k.bits a &&& BitVec.ofInt k.bits b)
def orA (k:IntKind) (a b:Int):Option AV:=zkN k (BitVec.ofInt k.bits a ||| BitVec.ofInt k.bits b)
def xorA (k:IntKind) (a b:Int):Option AV:=zkN k (BitVec.ofInt k.bits a ^^^ BitVec.ofInt k.bits b)
def zj7 (k:IntKind) (a b:Int):Option AV:=zkN k (BitVec.ofInt k.bits a &&& ~~~(BitVec.ofInt k.bits b))
def zlQ (k:IntKind) (a b:Int):Option AV:=zi3 k (a+b)
def zme (k:IntKind) (a b:Int):Option AV:=zi3 k (a - b)
def zkU (k:IntKind) (a b:Int):Option AV:=zi3 k (a*b)
def zlX (_:IntKind) (a b:Int):Option AV:=qb (a==b)
def zkk (_:IntKind) (a b:Int):Option AV:=qb (a != b)
def zmp (_:IntKind) (a b:Int):Option AV:=qb (decide (a<b))
def zmf (_:IntKind) (a b:Int):Option AV:=qb (decide (a≤b))
def zkJ (_:IntKind) (a b:Int):Option AV:=qb (decide (a > b))
def zmw (_:IntKind) (a b:Int):Option AV:=qb (decide (a≥b))
def zlg (op:BinOp) (k:IntKind) (a b:Int):Option AV :=
 BinOp.rec (motive:=fun _=>IntKind→Int→Int→Option AV) zlQ zme zkU quoA remA andA orA xorA shlA shrA zj7 zlX zkk zmp zmf zkJ zmw op k a b
def zbj:BinOp→Bool
 | .shl | .shr=>true
 | _=>false
def zrp (a b:List UInt8):Option AV:=if a.length+b.length<2 ^ 40 then some (.str (a++b)) else none
def zkY (op:BinOp) (a b:List UInt8):Option AV :=
 match op with
 | .add=>zrp a b
 | .eql=>qb (a==b)
 | .neq=>qb (!(a==b))
 | .lss=>qb (Op.bytesLess a b)
 | .leq=>qb (Op.bytesLess a b || a==b)
 | .gtr=>qb (!(Op.bytesLess a b || a==b))
 | .geq=>qb (!(Op.bytesLess a b))
 | _=>none
def jN (h:AHeap) (id:Nat):Bool:=match h.get id with
 | some (.cells _ _ _ _ _ _ fz sg _)=>(fz==0)&&!sg
 | _=>false
def zgI (h:AHeap) (id ver:Nat):Bool:=match h.get id with
 | some (.cells _ n _ lo hi _ _ _ ex)=>match zG ex n hi ver with
  | some _=>decide (lo≤ver)&&decide (ver≤hi)
  | none=>false
 | _=>false
def vk (h:AHeap) (id ver off id' ver' off':Nat):Option Bool :=
 if id=id' then (if ver=ver'∧zgI h id ver=true then some (off==off') else none)
 else if zgI h id ver&&zgI h id' ver'&&jN h id&&jN h id' then some false else none
def qr (eq:TypeId→AV→AV→Option Bool) (xs ys:List AV):List Field→Option Bool
 | []=>some true
 | f::r =>
  if f.name ≠ "_" then
   match zb3 P f.type xs f.offset,zb3 P f.type ys f.offset with
   | some a,some b=>match eq f.type a b with
    | some true=>qr eq xs ys r
    | some false=>some false
    | none=>none
   | _,_=>none
  else qr eq xs ys r
def ji (eq:AV→AV→Option Bool) (el:TypeId) (s:Nat) (xs ys:List AV):Nat→Nat→Option Bool
 | 0,_=>some true
 | n+1,i =>
  match zb3 P el xs (i*s),zb3 P el ys (i*s) with
  | some a,some b=>match eq a b with
   | some true=>ji eq el s xs ys n (i+1)
   | some false=>some false
   | none=>none
  | _,_=>none
def zpr (h:AHeap) (el:TypeId) (id ver off id' ver' off':Nat):Option Bool:=match P.info? el with
 | none=>none
 | some i=>if i.size≠0 then vk h id ver off id' ver' off' else none
def eqP (h:AHeap) (el:TypeId) (x y:AV):Option Bool:=match x with
 | .nilp=>match y with
  | .nilp=>some true
  | .ptr _ _ _=>some false
  | _=>none
 | .ptr id ver off=>match y with
  | .nilp=>some false
  | .ptr id' ver' off'=>zpr P h el id ver off id' ver' off'
  | _=>none
 | _=>none
def eqI (eq:TypeId→AV→AV→Option Bool) (x y:AV):Option Bool:=match x with
 | .nili=>match y with
  | .nili=>some true
  | .ifc _ _=>some false
  | _=>none
 | .ifc tx vx=>match y with
  | .nili=>some false
  | .ifc ty vy=>if tx≠ty then some false else match P.info? tx with
   | none=>none
   | some i=>if i.comparable then eq tx vx vy else none
  | _=>none
 | _=>none
def eqS (x y:AV):Option Bool:=match x with
 | .sle=>match y with
  | .nils _ _=>some false
  | _=>none
 | .nils _ _=>match y with
  | .nils _ _=>some true
  | .sle=>some false
  | .slc ..=>some false
  | .slg ..=>some false
  | _=>none
 | .slc ..=>match y with
  | .nils _ _=>some false
  | _=>none
 | .slg ..=>match y with
  | .nils _ _=>some false
  | _=>none
 | _=>none
def eqM (x y:AV):Option Bool:=match x with
 | .nilm=>match y with
  | .nilm=>some true
  | .mp _=>some false
  | _=>none
 | .mp _=>match y with
  | .nilm=>some false
  | _=>none
 | _=>none
def eqF (x y:AV):Option Bool:=match x with
 | .nilf=>match y with
  | .nilf=>some true
  | .fn ..=>some false
  | .yld _=>some false
  | _=>none
 | .fn ..=>match y with
  | .nilf=>some false
  | _=>none
 | .yld _=>match y with
  | .nilf=>some false
  | _=>none
 | _=>none
def eqB (x y:AV):Option Bool:=match x with
 | .bool a=>match y with
  | .bool b=>some (a==b)
  | _=>none
 | _=>none
def eqN (x y:AV):Option Bool:=match x with
 | .int k a=>match y with
  | .int k' b=>if k=k' then some (a==b) else none
  | _=>none
 | _=>none
def eqT (x y:AV):Option Bool:=match x with
 | .str a=>match y with
  | .str b=>some (a==b)
  | _=>none
 | _=>none
def eqR (eq:TypeId→AV→AV→Option Bool) (t:TypeId) (fs:Array Field) (x y:AV):Option Bool:=match x with
 | .agg xs=>match y with
  | .agg ys=>if P.stoodInHeld t then none else qr P eq xs ys fs.toList
  | _=>none
 | _=>none
def eqL (eq:TypeId→AV→AV→Option Bool) (n:Nat) (el:TypeId) (x y:AV):Option Bool:=match x with
 | .agg xs=>match y with
  | .agg ys=>match P.info? el with
   | none=>none
   | some i=>ji P (eq el) el i.size xs ys n 0
  | _=>none
 | _=>none
def eqA (h:AHeap):Nat→TypeId→AV→AV→Option Bool
 | 0,_,_,_=>none
 | d+1,t,x,y=>match P.underlying t with
  | none=>none
  | some u=>match u with
   | .bool=>eqB x y
   | .int _=>eqN x y
   | .string=>eqT x y
   | .pointer el=>eqP P h el x y
   | .interface _=>eqI P (eqA h d) x y
   | .struct fs=>eqR P (eqA h d) t fs x y
   | .array n el=>eqL P (eqA h d) n el x y
   | .slice _=>eqS x y
   | .map _ _=>eqM x y
   | .func _ _ _=>eqF x y
   | _=>none
inductive AR where
 | val (v:AV) (h:AHeap)
 | skip (h:AHeap)
 | enter (f:FuncId) (args:List AV) (h:AHeap)
 | round (id:Nat) (args:List AV)
 | dfr (d:ADef)
 | recover
 | panic (v:AV)
def zgx (h:AHeap) (op:BinOp) (t:TypeId) (x y:AV):Option AV:=match op with
 | .eql=>match eqA P h 9 t x y with
  | none=>none
  | some b=>some (.bool b)
 | .neq=>match eqA P h 9 t x y with
  | none=>none
  | some b=>some (.bool (!b))
 | _=>none
def zpK (op:BinOp):Option AV:=match op with
 | .eql=>some (.bool true)
 | .neq=>some (.bool false)
 | _=>none
def zoz (op:BinOp) (t:TypeId) (lit:Bool):Option AV:=match lit with
 | false=>none
 | true=>match P.underlying t with
  | some (.interface _)=>zpK op
  | _=>none
def xn:Operand→Bool
 | .const _=>true
 | _=>false
def jZ (op:BinOp) (k:IntKind) (a:Int) (y:AV):Option AV:=match y with
 | .int k' b=>if k=k'∨zbj op=true then zlg op k a b else none
 | _=>none
def zmI (op:BinOp) (a:List UInt8) (y:AV):Option AV:=match y with
 | .str b=>zkY op a b
 | _=>none
def zl5 (h:AHeap) (op:BinOp) (t:TypeId) (lit:Bool) (y:AV):Option AV:=match y with
 | .nili=>zoz P op t lit
 | y=>zgx P h op t .nili y
def zj6 (h:AHeap) (op:BinOp) (t:TypeId) (x y:AV):Option AV :=
 if P.eqGuardType P.depth t then none else zgx P h op t x y
def zjm (x:AV):Bool:=match x with
 | .unk=>true
 | _=>false
def zrh (h:AHeap) (op:BinOp) (t:TypeId) (lit:Bool) (x y:AV):Option AV :=
 match x with
 | .int k a=>jZ op k a y
 | .str a=>zmI op a y
 | .nili=>zl5 P h op t lit y
 | .agg l=>zj6 P h op t (.agg l) y
 | x=>zgx P h op t x y
def qq (h:AHeap) (op:BinOp) (t:TypeId) (lit:Bool) (x y:AV):Option AV:=match zjm x || zjm y with
 | true=>none
 | false=>zrh P h op t lit x y
def negA (x:AV):Option AV:=match x with
 | .int k n=>zi3 k (0 - n)
 | _=>none
def comA (x:AV):Option AV:=match x with
 | .int k n=>xorA k (if k.signed then -1 else k.max) n
 | _=>none
def notA (x:AV):Option AV:=match x with
 | .bool b=>some (.bool !b)
 | _=>none
def unA (op:UnOp) (x:AV):Option AV :=
 match op with
 | .neg=>negA x
 | .xor=>comA x
 | .not=>notA x
 | .plus=>none
def xV (x:AV):Option Nat:=match x with
 | .nils n _=>some n
 | .slc _ _ _ n _=>some n
 | .slg _ _ _ n _=>some n
 | .sle=>some 0
 | _=>none
def zoV (x:AV):Option Nat:=match x with
 | .str s=>some s.length
 | _=>none
def ziy (o:Option AObj):Option Nat:=match o with
 | some (.map es _)=>some es.length
 | _=>none
def zoP (h:AHeap) (x:AV):Option Nat:=match x with
 | .nilm=>some 0
 | .mp id=>ziy (h.get id)
 | _=>none
def zoD (d:Option TypeDesc):Option Nat:=match d with
 | some (.array n _)=>some n
 | _=>none
def zrd (h:AHeap) (t:TypeId) (x:AV):Option Nat :=
 match P.underlying t with
 | none=>none
 | some u=>match u with
  | .string=>zoV x
  | .array n _=>some n
  | .pointer arr=>zoD (P.underlying arr)
  | .slice _=>xV x
  | .map _ _=>zoP h x
  | _=>none
def zhC (h:AHeap) (el:TypeId) (sz id ver off len st:Nat):Nat:=match h.get id with
 | some (.cells _ n el' lo hi _ _ _ ex)=>match zG ex n hi ver with
  | some e=>if lo≤ver∧ver≤hi∧el'=el∧off=st*sz∧0<sz∧len+st≤e / sz then e / sz - st else len
  | none=>len
 | _=>len
def z8 (v:Int) (y:Nat):Option Nat:=if 0≤v∧v≤y then some v.toNat else none
def xa (len m:Nat) (isMax:Bool) (hi:Option Int):Option Nat:=match hi with
 | none=>match isMax with
  | true=>none
  | false=>some len
 | some v=>z8 v m
def zT (lo:Option Int) (h:Nat):Option Nat:=match lo with
 | none=>some 0
 | some v=>z8 v h
def yg (mx:Option Int) (cap:Nat):Option Nat:=match mx with
 | none=>some cap
 | some v=>z8 v cap
def zJ (len cap:Nat) (lo hi mx:Option Int):Option (Nat × Nat × Nat) :=
 match yg mx cap with
 | none=>none
 | some m=>match xa len m mx.isSome hi with
  | none=>none
  | some h=>match zT lo h with
   | none=>none
   | some l=>some (l,h,m)
def zeU (id ver off size:Nat) (b:Option (Nat × Nat × Nat)):Option AV:=match b with
 | none=>none
 | some (l,h,m)=>some (.slc id ver (if m=l then off else off+l*size) (h - l) (m - l))
def zjt (id ver off len st size:Nat) (mx:Option Int) (b:Option (Nat × Nat × Nat)):Option AV:=match mx with
 | some _=>match len with
  | 0=>none
  | _+1=>zeU id ver off size b
 | none=>match b with
  | none=>none
  | some (l,h,_)=>some (.slg id ver (off+l*size) (h - l) (st+l))
def zlh (b:Option (Nat × Nat × Nat)):Option AV:=match b with
 | none=>none
 | some (l,h,m)=>some (.nils (h - l) (m - l))
def zqY (s:List UInt8) (b:Option (Nat × Nat × Nat)):Option AV:=match b with
 | none=>none
 | some (l,h,_)=>some (.str ((s.drop l).take (h - l)))
def zh9 (n:Nat) (size:Option Nat) (x:AV) (lo hi mx:Option Int):Option AV:=match x with
 | .ptr id ver off=>match size with
  | none=>none
  | some s=>zeU id ver off s (zJ n n lo hi mx)
 | _=>none
def zee (x:AV) (lo hi mx:Option Int):Option AV:=match x with
 | .str s=>match mx with
  | some _=>none
  | none=>zqY s (zJ s.length s.length lo hi none)
 | _=>none
def yQ (size:Option Nat) (x:AV) (lo hi mx:Option Int):Option AV:=match size with
 | none=>none
 | some sz=>match x with
  | .nils len cap=>zlh (zJ len cap lo hi mx)
  | .slc id ver off len cap=>zeU id ver off sz (zJ len cap lo hi mx)
  | .slg id ver off len st=>zjt id ver off len st sz mx (zJ len len lo hi mx)
  | .sle=>match zJ 0 0 lo hi mx with
   | none=>none
   | some _=>some .sle
  | _=>none
def zbc (t:TypeId) (x:AV) (lo hi mx:Option Int):Option AV :=
 match P.underlying t with
 | none=>none
 | some u=>match u with
  | .array n el=>zh9 n (xW P el) x lo hi mx
  | .string=>zee x lo hi mx
  | .slice el=>yQ (xW P el) x lo hi mx
  | _=>none
def ze7 (h:AHeap) (el:TypeId) (sz:Nat) (x:AV) (lo hi:Option Int):Option AV:=match x with
 | .slg id ver off len st=>zjt id ver off len st sz none (zJ len (zhC h el sz id ver off len st) lo hi none)
 | _=>none
def zez (h:AHeap) (t:TypeId) (x:AV) (lo hi mx:Option Int):Option AV:=match mx with
 | some _=>none
 | none=>match P.underlying t with
  | some (.slice el)=>match xW P el with
   | none=>none
   | some sz=>ze7 h el sz x lo hi
  | _=>none
def zN (h:AHeap) (t:TypeId) (x:AV) (lo hi mx:Option Int):Option AV:=match zbc P t x lo hi mx with
 | some v=>some v
 | none=>zez P h t x lo hi mx
def zaO (x:AV) (off:Nat) (size:Option Nat):Option AV:=match x with
 | .ptr id ver o=>match size with
  | none=>none
  | some 0=>none
  | some (_+1)=>some (.ptr id ver (o+off))
 | _=>none
def jL (s:TypeId) (x:AV) (f:Nat):Option AV :=
 match P.underlying s with
 | none=>none
 | some u=>match u with
  | .struct fs=>match fs[f]? with
   | none=>none
   | some fl=>zaO x fl.offset (xW P fl.type)
  | _=>none
def zot (t:TypeId) (x:AV) (off:Nat):Option AV:=match x with
 | .agg cs=>zb3 P t cs off
 | _=>none
def zkr (t:TypeId) (x:AV) (f:Nat):Option AV :=
 match P.underlying t with
 | none=>none
 | some u=>match u with
  | .struct fs=>match fs[f]? with
   | none=>none
   | some fl=>zot P fl.type x fl.offset
  | _=>none
def xZ (id ver off len size:Nat) (i:Int):Option AV:=if 0≤i∧i<len then some (.ptr id ver (off+i.toNat*size)) else none
def zbC (len:Nat) (size:Option Nat) (x:AV) (i:Int):Option AV:=match size with
 | none=>none
 | some s=>match x with
  | .ptr id ver off=>xZ id ver off len s i
  | .gp g off=>if 0≤i∧i<len then some (.gp g (off+i.toNat*s)) else none
  | _=>none
def zc6 (size:Option Nat) (x:AV) (i:Int):Option AV:=match size with
 | none=>none
 | some s=>match x with
  | .slc id ver off len _=>xZ id ver off len s i
  | .slg id ver off len _=>xZ id ver off len s i
  | _=>none
def zf (t:TypeId) (x ix:AV):Option AV :=
 match ix with
 | .int _ i=>match P.underlying t with
  | none=>none
  | some u=>match u with
   | .array len el=>zbC len (xW P el) x i
   | .slice el=>zc6 (xW P el) x i
   | _=>none
 | _=>none
def zdV (len:Nat) (el:TypeId) (size:Option Nat) (x:AV) (i:Int):Option AV:=match size with
 | none=>none
 | some s=>match x with
  | .agg cs=>if 0≤i∧i<len then zb3 P el cs (i.toNat*s) else none
  | _=>none
def zla (o:Option UInt8):Option AV:=match o with
 | none=>none
 | some b=>some (.int .u8 b.toNat)
def zdG (x:AV) (i:Int):Option AV:=match x with
 | .str s=>if 0≤i then zla s[i.toNat]? else none
 | _=>none
def ze5 (t:TypeId) (x ix:AV):Option AV :=
 match ix with
 | .int _ i=>match P.underlying t with
  | none=>none
  | some u=>match u with
   | .array len el=>zdV P len el (xW P el) x i
   | .string=>zdG x i
   | _=>none
 | _=>none
def zcq (v:AV):Option UInt8:=match v with
 | .int k n=>match k with
  | .u8=>some (UInt8.ofNat n.toNat)
  | _=>none
 | _=>none
def vN (l:List AV):Option (List UInt8):=qD zcq l
def zU (s:List UInt8):List AV:=s.map fun b=>.int .u8 b.toNat
def yt (h:AHeap) (size n:Nat) (x:AV):Option (List AV):=match x with
 | .nils _ _=>some []
 | .slc id ver off _ _=>zb h id ver off (n*size)
 | .slg id ver off _ _=>zb h id ver off (n*size)
 | .str s=>some (zU (s.take n))
 | .sle=>match n with
  | 0=>some []
  | _+1=>none
 | _=>none
def zc9 (x:AV):Option Nat:=match x with
 | .nils n _=>some n
 | .slc _ _ _ n _=>some n
 | .slg _ _ _ n _=>some n
 | .str s=>some s.length
 | .sle=>some 0
 | _=>none
def zs6 (l:Option (List UInt8)):Option AV:=match l with
 | none=>none
 | some s=>some (.str s)
def vg (l:Option (List AV)):Option AV:=match l with
 | none=>none
 | some l=>zs6 (vN l)
def zmc (k:IntKind) (x:AV):Option AV:=match x with
 | .int _ n=>zi3 k n
 | _=>none
def jK (e:TypeId):Bool:=match P.underlying e with
 | some (.int .u8)=>true
 | _=>false
def zgg (h:AHeap) (bytes:Bool) (x:AV):Option AV:=match x with
 | .str s=>match bytes with
  | true=>none
  | false=>some (.str s)
 | .int _ n=>match bytes with
  | true=>none
  | false=>some (.str (Utf8.encode n).data.toList)
 | .nils _ _=>match bytes with
  | true=>some (.str [])
  | false=>none
 | .slc id ver off len _=>match bytes with
  | true=>vg (zb h id ver off len)
  | false=>none
 | .slg id ver off len _=>match bytes with
  | true=>vg (zb h id ver off len)
  | false=>none
 | _=>none
def qV (t:TypeId):Bool:=match P.underlying t with
 | some (.slice e)=>jK P e
 | _=>false
def jF (h:AHeap) (size:Option Nat) (x:AV):Option AV:=match x with
 | .ptr id ver off=>match size,h.get id with
  | some (_+1),some (.cells _ n _ lo hi _ _ _ ex)=>match zG ex n hi ver with
   | some e=>if lo≤ver∧ver≤hi∧off<e then some x else none
   | none=>none
  | _,_=>none
 | _=>none
def jd (f:TypeId→Nat→Bool) (r:Nat):List Field→Bool
 | []=>false
 | x::l=>match xW P x.type with
  | none=>false
  | some s=>match Nat.ble x.offset r&&Nat.blt r (x.offset+s) with
   | true=>f x.type (r - x.offset)
   | false=>jd f r l
def zmq (f:TypeId→Nat→Bool) (m:Nat) (s:Option Nat) (e:TypeId) (r:Nat):Bool:=match s with
 | none=>false
 | some s=>match s with
  | 0=>false
  | s+1=>Nat.blt (r / (s+1)) m&&f e (r % (s+1))
def zf8 (u:TypeId):Nat→TypeId→Nat→Bool
 | 0,_,_=>false
 | d+1,e,r=>match Nat.beq r 0&&Nat.beq e u with
  | true=>true
  | false=>match P.underlying e with
   | some (.struct fs)=>!(P.stoodInHeld e)&&jd P (zf8 u d) r fs.toList
   | some (.array m e)=>zmq (zf8 u d) m (xW P e) e r
   | _=>false
def zmu (u:TypeId) (es:Option Nat) (el off:Nat):Bool:=match es with
 | none=>false
 | some s=>match s with
  | 0=>false
  | s+1=>zf8 P u 9 el (off % (s+1))
def qC (h:AHeap) (u:TypeId) (size:Option Nat) (x:AV):Option AV:=match x with
 | .ptr id ver off=>match size,h.get id with
  | some (_+1),some (.cells _ n el lo hi _ _ _ ex)=>match zG ex n hi ver with
   | some e=>if lo≤ver∧ver≤hi∧off<e∧zmu P u (xW P el) el off=true then some x else none
   | none=>none
  | _,_=>none
 | _=>none
def vU (t:TypeId):Option TypeId:=match P.underlying t with
 | some (.pointer e)=>some e
 | _=>none
def ze3 (t:TypeId):Bool:=match P.underlying t with
 | some .unsafePointer=>true
 | _=>false
def zcp (h:AHeap) (src dst:TypeId) (x:AV):Option AV :=
 match P.underlying src with
 | none=>none
 | some _=>match P.underlying dst with
  | none=>none
  | some u=>match u with
   | .int k=>zmc k x
   | .string=>zgg h (qV P src) x
   | .unsafePointer=>match vU P src with
    | none=>none
    | some t=>jF h (xW P t) x
   | .pointer t=>match ze3 P src with
    | true=>qC P h t (xW P t) x
    | false=>none
   | _=>none
def zii (h:AHeap) (e:TypeId) (x:AV):Option (AV × AHeap):=match x with
 | .str s=>if jK P e=true∧P.cellsOf e=1 then some (.slg h.next 0 0 s.length 0,xu h e (zU s) true) else none
 | _=>none
def qc (h:AHeap) (src dst:TypeId) (x:AV):Option (AV × AHeap) :=
 match P.underlying src with
 | some .string=>match P.underlying dst with
  | some (.slice e)=>zii P h e x
  | _=>none
 | _=>none
def zdD (need bytes:Nat):Bool:=Nat.ble ((2*need+1000)*bytes) (2 ^ 48)&&Nat.blt need (2 ^ 60)
def xy (h:AHeap) (el:TypeId) (size bytes sLen need:Nat) (s:AV) (new:List AV):Option (AV × AHeap) :=
 if zdD need bytes then
  match yt h size sLen s with
  | none=>none
  | some old=>if old.all AV.one=true∧old.length=sLen*size then some (.slg h.next 0 0 need 0,xu h el (old++new) false) else none
 else none
def ziL (h:AHeap) (id ver off size sLen need cap:Nat) (new:List AV):Option (AV × AHeap) :=
 match zc h id ver (off+sLen*size) new with
 | none=>none
 | some h'=>some (.slc id ver off need cap,h')
def x4 (h:AHeap) (el:TypeId) (size bytes id ver off st sLen need:Nat) (new:List AV):Option (AV × AHeap) :=
 match h.get id with
 | some (.cells c m el' lo hi nv fz sg ex)=>match zG ex m hi ver with
  | none=>none
  | some e =>
   let at_:=off+sLen*size
   if lo≤ver∧ver≤hi∧at_≤e∧fz≤at_∧el'=el∧off=st*size∧hi<nv∧zdD need bytes=true then
    if m≤at_∧hi+1=nv then
     (zd c at_ new).seq fun c=>(ex.set (some m) hi).seq fun ex=>some (.slg id nv off need st,h.put id (.cells c (at_+new.length) el lo nv (nv+1) fz sg ex))
    else
     (zd c at_ new).seq fun c=>some (.slg id nv off need st,h.put id (.cells c (at_+new.length) el nv nv (nv+1) fz sg ex))
   else none
 | _=>none
def xl (h:AHeap) (el:TypeId) (size id ver off st sLen need:Nat) (new:List AV):Option (AV × AHeap) :=
 match h.get id with
 | some (.cells _ m el' lo hi _ _ _ ex)=>match zG ex m hi ver with
  | none=>none
  | some e =>
   if off+need*size≤e∧lo≤ver∧ver≤hi∧el'=el∧off=st*size then
    match zc h id ver (off+sLen*size) new with
    | none=>none
    | some h'=>some (.slg id ver off need st,h')
   else none
 | _=>none
def za3 (h:AHeap) (el:TypeId) (size bytes sLen n:Nat) (s:AV) (new:List AV):Option (AV × AHeap) :=
 match s with
 | .nils _ cap=>match cap with
  | 0=>xy h el size bytes sLen (sLen+n) s new
  | _+1=>none
 | .slc id ver off _ cap =>
  if sLen+n≤cap then ziL h id ver off size sLen (sLen+n) cap new
  else xy h el size bytes sLen (sLen+n) s new
 | .slg id ver off _ st=>match xl h el size id ver off st sLen (sLen+n) new with
  | some r=>some r
  | none=>x4 h el size bytes id ver off st sLen (sLen+n) new
 | _=>none
def xL (h:AHeap) (s:AV):Option (AV × AHeap):=match s with
 | .nils l c=>if l≤c then some (.nils l c,h) else none
 | .slc i r o l c=>if l≤c then some (.slc i r o l c,h) else none
 | .slg i r o l st=>some (.slg i r o l st,h)
 | _=>none
def qU (h:AHeap) (size:Nat) (z:AV) (zeros:Bool) (x:AV):Option (Nat × List AV):=match zeros with
 | true=>match x with
  | .int _ l=>if 0≤l∧l<2 ^ 40 then some (l.toNat,zC z.cells l.toNat) else none
  | _=>none
 | false=>match zc9 x with
  | none=>none
  | some n=>match yt h size n x with
   | none=>none
   | some new=>some (n,new)
def vz (h:AHeap) (el:TypeId) (zeros:Bool) (s x:AV):Option (AV × AHeap) :=
 match P.info? el with
 | none=>none
 | some i=>match qj P el with
  | none=>none
  | some z=>match xV s with
   | none=>none
   | some sLen=>match qU h i.size z zeros x with
    | none=>none
    | some (n,new) =>
     if 0<i.size∧z.cells.length=i.size∧z.cells.all AV.one=true∧new.all AV.one=true∧new.length=n*i.size∧(zeros=true→Nat.ble (n*i.bytes) (2 ^ 48)=true) then
      match n with
      | 0=>xL h s
      | n+1=>za3 h el i.size i.bytes sLen (n+1) s new
     else none
def qS (h:AHeap) (sType:TypeId) (zeros:Bool) (s x:AV):Option (AV × AHeap) :=
 match P.underlying sType with
 | none=>none
 | some u=>match u with
  | .slice el=>vz P h el zeros s x
  | _=>none
def zdH (eq:AV→AV→Option Bool) (k:AV):List AEntry→Nat→Option (Option (Nat × AEntry))
 | [],_=>some none
 | e::r,i=>match eq k e.key with
  | none=>none
  | some b=>match b with
   | true=>some (some (i,e))
   | false=>zdH eq k r (i+1)
def jl (ck:TypeId→AV→Bool) (cs:List AV):List Field→Bool
 | []=>true
 | f :: r => (if f.name ≠ "_" then (match zb3 P f.type cs f.offset with
  | none=>false
  | some v=>ck f.type v) else true)&&jl ck cs r
def zaS (ck:AV→Bool) (el:TypeId) (s:Nat) (cs:List AV):Nat→Nat→Bool
 | 0,_=>true
 | n+1,i=>(match zb3 P el cs (i*s) with
  | none=>false
  | some v=>ck v)&&zaS ck el s cs n (i+1)
def zoW (ck:TypeId→AV→Bool) (n:Nat) (el:TypeId) (x:AV):Bool:=match x with
 | .agg cs=>match xW P el with
  | none=>false
  | some s=>zaS P (ck el) el s cs n 0
 | _=>false
def zoj (ck:TypeId→AV→Bool) (fs:Array Field) (x:AV):Bool:=match x with
 | .agg cs=>jl P ck cs fs.toList
 | _=>false
def jH:Nat→TypeId→AV→Bool
 | 0,_,_=>false
 | d+1,t,x=>match P.underlying t with
  | none=>false
  | some u=>match u with
   | .bool=>true
   | .int _=>true
   | .string=>true
   | .array n el=>zoW P (jH d) n el x
   | .struct fs=>zoj P (jH d) fs x
   | _=>false
def zf0 (t:TypeId):Option (TypeId × TypeId):=match P.underlying t with
 | some (.map k e)=>some (k,e)
 | _=>none
def yK (h:AHeap) (m:AV):Option (List AEntry):=match m with
 | .nilm=>some []
 | .mp id=>match h.get id with
  | some (.map es _)=>some es
  | _=>none
 | _=>none
def vQ (h:AHeap) (kt:TypeId) (k m:AV):Option (Option (Nat × AEntry)) :=
 if jH P 9 kt k=true then
  match yK h m with
  | none=>none
  | some es=>zdH (eqA P h 9 kt) k es 0
 else none
def zih (h:AHeap) (id:Nat) (k v:AV) (r:Option (Nat × AEntry)):Option AHeap:=match h.get id with
 | some (.map es clock)=>match r with
  | some (i,e)=>match wJ 300 k e.key with
   | true=>some (h.put id (.map (es.take i++{ key:=k,val:=v,born:=e.born }::es.drop (i+1)) clock))
   | false=>none
  | none=>some (h.put id (.map (es++[{ key:=k,val:=v,born:=clock }]) (clock+1)))
 | _=>none
def zdq (h:AHeap) (t:TypeId) (m k v:AV):Option AHeap:=match zf0 P t with
 | none=>none
 | some (kt,_)=>match m with
  | .mp id=>match vQ P h kt k (.mp id) with
   | none=>none
   | some r=>zih h id k v r
  | _=>none
def zeT (n:Nat):List AEntry→Nat→Option Nat
 | [],_=>none
 | e::r,i=>match Nat.beq e.born n with
  | true=>some i
  | false=>zeT n r (i+1)
def zie (h:AHeap) (id:Nat) (k:AV) (z:Option AV) (es:List AEntry) (clock:Nat):Option (AV × AHeap):=match z with
 | none=>none
 | some z=>some (.tup [z,.int .i64 (.ofNat clock)],h.put id (.map (es++[{ key:=k,val:=z,born:=clock }]) (clock+1)))
def zkg (h:AHeap) (el:TypeId) (id:Nat) (k:AV) (r:Option (Nat × AEntry)):Option (AV × AHeap):=match h.get id with
 | some (.map es clock)=>match r with
  | some (_,e)=>match wJ 300 k e.key with
   | true=>some (.tup [e.val,.int .i64 (.ofNat e.born)],h.put id (.map es clock))
   | false=>none
  | none=>zie h id k (qj P el) es clock
 | _=>none
def zbr (h:AHeap) (t:TypeId) (m k:AV):Option (AV × AHeap):=match zf0 P t with
 | none=>none
 | some (kt,el)=>match m with
  | .mp id=>match vQ P h kt k (.mp id) with
   | none=>none
   | some r=>zkg P h el id k r
  | _=>none
def zib (h:AHeap) (id n:Nat) (v:AV):Option AHeap:=match h.get id with
 | some (.map es clock)=>match zeT n es 0 with
  | none=>none
  | some i=>match es[i]? with
   | none=>none
   | some e=>some (h.put id (.map (es.take i++{ key:=e.key,val:=v,born:=e.born }::es.drop (i+1)) clock))
 | _=>none
def ka (h:AHeap) (m s v:AV):Option AHeap:=match m with
 | .mp id=>match s with
  | .int _ n=>match n with
   | .ofNat n=>zib h id n v
   | .negSucc _=>none
  | _=>none
 | _=>none
def zmR (ok:Bool) (v:AV) (b:Bool):Option AV:=match ok with
 | true=>some (.tup [v,.bool b])
 | false=>some v
def zbw (h:AHeap) (t:TypeId) (m k:AV) (ok:Bool):Option AV:=match zf0 P t with
 | none=>none
 | some (kt,el)=>match vQ P h kt k m with
  | none=>none
  | some (some (_,e))=>zmR ok e.val true
  | some none=>match qj P el with
   | none=>none
   | some z=>zmR ok z false
def zfb (h:AHeap) (id:Nat) (r:Option (Nat × AEntry)):Option AHeap:=match h.get id with
 | some (.map es clock)=>match r with
  | some (i,_)=>some (h.put id (.map (es.take i++es.drop (i+1)) clock))
  | none=>some h
 | _=>none
def zgL (h:AHeap) (t:TypeId) (m k:AV):Option AHeap:=match zf0 P t with
 | none=>none
 | some (kt,_)=>match vQ P h kt k m with
  | none=>none
  | some r=>match m with
   | .nilm=>some h
   | .mp id=>zfb h id r
   | _=>none
def zeG (asserted:TypeId) (ok:Bool):Option AV:=match ok with
 | false=>none
 | true=>match qj P asserted with
  | none=>none
  | some z=>some (.tup [z,.bool false])
def zmJ (want:Array (String × TypeId)) (got:Array Method):Bool:=want.toList.any fun p=>!(got.toList.any fun m=>m.name==p.1&&m.sig==p.2)
def zjX (want:Array (String × TypeId)) (asserted:TypeId) (x:AV) (t:TypeId) (ok:Bool):Option AV:=match P.info? t with
 | none=>none
 | some i=>match zmJ want i.methods with
  | false=>zmR ok x true
  | true=>zeG P asserted ok
def zgy (x:AV) (asserted:TypeId) (ok:Bool):Option AV:=match P.underlying asserted with
 | none=>none
 | some u=>match x with
  | .nili=>zeG P asserted ok
  | .ifc t v=>match u with
   | .interface want=>zjX P want asserted (.ifc t v) t ok
   | _=>if t=asserted then zmR ok v true else zeG P asserted ok
  | _=>none
def zoF (h:AHeap) (n:Nat) (dst:AV) (cells:List AV):Option (AV × AHeap):=match dst with
 | .nils _ _=>some (.int .i64 n,h)
 | .slc id ver off _ _=>match zc h id ver off cells with
  | none=>none
  | some h=>some (.int .i64 n,h)
 | .slg id ver off _ _=>match zc h id ver off cells with
  | none=>none
  | some h=>some (.int .i64 n,h)
 | _=>none
def zoA (h:AHeap) (size:Option Nat) (dst src:AV):Option (AV × AHeap):=match size with
 | none=>none
 | some s=>match xV dst with
  | none=>none
  | some dn=>match zc9 src with
   | none=>none
   | some sn=>match yt h s (Nat.min sn dn) src with
    | none=>none
    | some cells=>zoF h (Nat.min sn dn) dst cells
def zqf (h:AHeap) (t:TypeId) (dst src:AV):Option (AV × AHeap):=match P.underlying t with
 | none=>none
 | some u=>match u with
  | .slice el=>zoA h (xW P el) dst src
  | _=>none
def j9 (h:AHeap) (z:Option AV) (id ver off n:Nat):Option AHeap:=match n with
 | 0=>some h
 | n+1=>match z with
  | none=>none
  | some z=>zc h id ver off (zC z.cells (n+1))
def zia (h:AHeap) (id:Nat):Option AHeap:=match h.get id with
 | some (.map _ clock)=>some (h.put id (.map [] clock))
 | _=>none
def vw (t:TypeId):Option AV:=match P.underlying t with
 | some (.slice el)=>qj P el
 | _=>none
def zbG (h:AHeap) (t:TypeId) (x:AV):Option AHeap:=match P.underlying t with
 | none=>none
 | some _=>match x with
  | .nilm=>some h
  | .nils _ _=>some h
  | .mp id=>zia h id
  | .slc id ver off n _=>j9 h (vw P t) id ver off n
  | .slg id ver off n _=>j9 h (vw P t) id ver off n
  | _=>none
def yF (h:AHeap) (el:TypeId) (l c:Int):Option (AV × AHeap):=match P.info? el with
 | none=>none
 | some i=>match qj P el with
  | none=>none
  | some z =>
   if 0≤l∧l≤c∧c<2 ^ 40∧i.bytes*c≤2 ^ 48∧z.cells.length=i.size∧0<i.size∧z.cells.all AV.one=true then
    some (.slc h.next 0 0 l.toNat c.toNat,xu h el (zC z.cells c.toNat) false)
   else none
def zR (h:AHeap) (t:TypeId) (len cap:AV):Option (AV × AHeap):=match P.underlying t with
 | some (.slice el)=>match len with
  | .int _ l=>match cap with
   | .int _ c=>yF P h el l c
   | _=>none
  | _=>none
 | _=>none
def zqF (mx:Bool) (a b:AV):Option AV:=match a with
 | .int k x=>match b with
  | .int _ y=>some (.int k (if (if mx then decide (y > x) else decide (y<x)) then y else x))
  | _=>none
 | _=>none
def znR (f:AV→AV→Option AV):AV→List AV→Option AV
 | x,[]=>some x
 | x,y::r=>match f x y with
  | none=>none
  | some z=>znR f z r
def zdL (h:AHeap) (u:TypeId) (id ver off n:Nat):Option (AV × AHeap):=match h.get id with
 | some (.cells c m el lo hi nv fz sg ex)=>match zG ex m hi ver with
  | none=>none
  | some e =>
   if lo≤ver∧ver≤hi∧n≤e∧off=0∧el=u∧sg=false∧P.cellsOf el=1 then
    match zV c 0 n with
    | none=>none
    | some l=>match vN l with
     | none=>none
     | some s=>some (.str s,h.put id (.cells c m el lo hi nv (max fz n) sg ex))
   else none
 | _=>none
def qt (h:AHeap) (u:TypeId) (p n:AV):Option (AV × AHeap):=match n with
 | .int .i64 n=>match p with
  | .nilp=>if n=0 then some (.str [],h) else none
  | .ptr id ver off=>if n=0 then some (.str [],h) else if 0<n∧n<2 ^ 40 then zdL P h u id ver off n.toNat else none
  | _=>none
 | _=>none
def zpH (h:AHeap) (f:FuncId) (isPtr:Bool) (el:Option TypeId) (v:AV):Option (FuncId × AV):=match el with
 | some el=>match isPtr with
  | true=>some (f,v)
  | false=>match v with
   | .ptr id ver off=>match zaK P h el (.ptr id ver off) with
    | none=>none
    | some x=>some (f,x)
   | _=>none
 | none=>match isPtr with
  | true=>none
  | false=>some (f,v)
def zrB (h:AHeap) (f:FuncId) (isPtr:Bool) (t:TypeId) (q:Option AV):Option (FuncId × AV):=match q with
 | none=>none
 | some q=>match isPtr with
  | true=>some (f,q)
  | false=>match zaK P h t q with
   | none=>none
   | some x=>some (f,x)
def hopA (h:AHeap) (f:FuncId) (isPtr:Bool) (s:FieldStep) (v:AV):Option (FuncId × AV):=match s.deref with
 | false=>none
 | true=>match P.underlying s.struct with
  | some (.struct fs)=>match fs[s.index]? with
   | none=>none
   | some fl=>match P.underlying fl.type with
    | none=>none
    | some u=>match u with
     | .pointer _=>none
     | _=>match v with
      | .ptr id ver o=>zrB P h f isPtr fl.type (zaO (.ptr id ver o) fl.offset (xW P fl.type))
      | _=>none
  | _=>none
def zg9 (h:AHeap) (t:TypeId) (v:AV) (name:String):Option (FuncId × AV):=match P.info? t with
 | none=>none
 | some i=>match i.methods.find? (·.name==name) with
  | none=>none
  | some m=>match m.path.toList with
   | []=>match m.func with
    | none=>none
    | some (f,p)=>match P.underlying t with
     | none=>none
     | some _=>zpH P h f p (vU P t) v
   | s::rest=>match rest with
    | _::_=>none
    | []=>match m.func with
     | none=>none
     | some (f,p)=>hopA P h f p s v
def kc (h:AHeap) (args:List AV):Option AR:=match args with
 | [x]=>some (.val x h)
 | _=>none
def zlq (h:AHeap) (args:List AV):Option AR:=match args with
 | [.str a,.str b]=>some (.val (.int .i64 (Lib.compareBytes a b)) h)
 | _=>none
def wZ (h:AHeap) (args:List AV):Option AR:=match args with
 | [.str s,.int .u8 c]=>some (.val (.int .i64 (Lib.indexByte s c.toNat.toUInt8)) h)
 | _=>none
def zea (h:AHeap) (args:List AV):Option AR:=match args with
 | [.str s,.int .u8 c]=>some (.val (.int .i64 (Lib.countByte s c.toNat.toUInt8)) h)
 | _=>none
def qT (h:AHeap) (res:Option TypeId) (args:List AV):Option AR:=match res with
 | none=>none
 | some t=>match P.underlying t with
  | some (.slice el)=>match args with
   | [.int .i64 n]=>if 0≤n∧n<2 ^ 40∧P.cellsOf el=1 then
    some (.val (.slg h.next 0 0 n.toNat 0) (h.new (.cells .leaf n.toNat el 0 0 1 0 false .leaf)))
    else none
   | _=>none
  | _=>none
def zgw : Option TypeId := match P.cutTypes.find? (·.1 == "internal/reflectlite.rtype") with
 | none=>none
 | some c=>some c.2
def zbu (h:AHeap) (args:List AV):Option AR:=match args with
 | [.ifc t _]=>match zgw P with
  | none=>none
  | some r=>some (.val (.ifc r (.agg [.gp P.globals.size t])) h)
 | _=>none
def qX (h:AHeap) (args:List AV):Option AR:=match args with
 | [.agg [.gp g t]]=>if g=P.globals.size∧P.packed t=false∧P.holdsPacked P.depth t=false then
  match P.info? t with
  | none=>none
  | some i=>some (.val (.bool i.comparable) h)
  else none
 | _=>none
def ztT (v:AV):Option (IntKind × Int):=match v with
 | .int k n=>some (k,n)
 | _=>none
def zpi (l:Option (List AV)):Option (IntKind × Int):=match l with
 | some l=>match l with
  | [v]=>ztT v
  | _=>none
 | none=>none
def zjG (h:AHeap) (x:AV):Option (IntKind × Int):=match x with
 | .ptr id ver off=>zpi (zb h id ver off 1)
 | _=>none
def zq1 (h:AHeap) (x v:AV):Option AHeap:=match x with
 | .ptr id ver off=>zc h id ver off [v]
 | _=>none
def zgO (k:IntKind) (h:AHeap) (args:List AV):Option AR:=match args with
 | [x]=>match zjG h x with
  | some (k',n)=>if k'=k then some (.val (.int k n) h) else none
  | none=>none
 | _=>none
def zb1 (k:IntKind) (h:AHeap) (x:AV) (n:Int) (v:AV):Option AR:=match zq1 h x (.int k n) with
 | none=>none
 | some h=>some (.val v h)
def zdX (k:IntKind) (h:AHeap) (args:List AV):Option AR:=match args with
 | [x,.int k' n]=>match zjG h x with
  | some _=>if k'=k then zb1 k h x n (.tup []) else none
  | none=>none
 | _=>none
def zkS (k:IntKind) (h:AHeap) (args:List AV):Option AR:=match args with
 | [x,.int _ o,.int k' n]=>match zjG h x with
  | some (k1,m)=>if k1=k∧k'=k∧m=o then zb1 k h x n (.bool true) else none
  | none=>none
 | _=>none
def zl2 (k:IntKind) (h:AHeap) (args:List AV):Option AR:=match args with
 | [x,.int _ d]=>match zjG h x with
  | some (k1,m)=>if k1=k then zb1 k h x (k.wrap (m+d)) (.int k (k.wrap (m+d))) else none
  | none=>none
 | _=>none
def wp (h:AHeap) (args:List AV):Option AR:=match args with
 | [.ptr _ _ _]=>some (.val (.tup []) h)
 | _=>none
def zbX (h:AHeap) (args:List AV):Option AR:=match args with
 | []=>some (.val (.tup []) h)
 | _=>none
def zed (h : AHeap) (name : String) (args : List AV) : Option AR := match name == "sync/atomic.LoadUint32" with
 | true=>zgO .u32 h args
 | false => match name == "sync/atomic.StoreUint32" with
  | true=>zdX .u32 h args
  | false => match name == "sync/atomic.CompareAndSwapInt32" with
   | true=>zkS .i32 h args
   | false => match name == "sync/atomic.AddInt32" with
    | true=>zl2 .i32 h args
    | false => match name == "internal/race.Acquire" with
     | true=>wp h args
     | false => match name == "internal/race.ReleaseMerge" with
      | true=>wp h args
      | false => match name == "internal/race.Disable" with
       | true=>zbX h args
       | false => match name == "internal/race.Enable" with
        | true=>zbX h args
        | false=>none
def zdl (h : AHeap) (fn : Func) (args : List AV) : Option AR := match fn.origin == "" with
 | false=>none
 | true => match fn.name == "internal/abi.NoEscape" with
  | true=>kc h args
  | false => match fn.name == "internal/bytealg.abigen_runtime_cmpstring" with
   | true=>zlq h args
   | false => match fn.name == "internal/bytealg.IndexByteString" with
    | true=>wZ h args
    | false => match fn.name == "internal/bytealg.CountString" with
     | true=>zea h args
     | false => match fn.name == "internal/bytealg.MakeNoZero" with
      | true=>qT P h fn.resultTypes[0]? args
      | false => match fn.name == "internal/reflectlite.TypeOf" with
       | true=>zbu P h args
       | false => match fn.name == "(internal/reflectlite.rtype).Comparable" with
        | true=>qX P h args
        | false=>zed h fn.name args
def zjg (h:AHeap) (f:FuncId) (args:List AV):Option AR:=match P.funcs[f]? with
 | none=>none
 | some fn=>match fn.body with
  | some _ => if fn.name == "runtime.NumGoroutine" then none else some (.enter f args h)
  | none=>zdl P h fn args
def xK (h:AHeap) (x:AV) (name:String) (args:List AV):Option AR:=match x with
 | .ifc t v=>match zg9 P h t v name with
  | none=>none
  | some (f,r)=>zjg P h f (r::args)
 | _=>none
def zh5 (t:TypeId) (x:AV):Option AV:=match P.underlying t with
 | none=>none
 | some u=>match u with
  | .interface _=>some x
  | _=>some (.ifc t x)
def wx (h:AHeap) (f:Fn) (args captured:List AV):Option AR:=match f with
 | .func f=>zjg P h f (args++captured)
 | .method name=>match args with
  | []=>none
  | x::r=>xK P h x name r
 | .methodOf t name=>match args with
  | []=>none
  | x::r=>match zh5 P t x with
   | none=>none
   | some y=>xK P h y name r
 | _=>none
def yp (h:AHeap) (v:Option AV):Option AR:=match v with
 | none=>none
 | some v=>some (.val v h)
def wk (r:Option (AV × AHeap)):Option AR:=match r with
 | none=>none
 | some (v,h)=>some (.val v h)
def zcE (r:Option AHeap):Option AR:=match r with
 | none=>none
 | some h=>some (.skip h)
def zdA (r:Option AHeap):Option AR:=match r with
 | none=>none
 | some h=>some (.val (.tup []) h)
def zbD (x:AV):Option AV:=match x with
 | .nils _ _=>some .nilp
 | .slc id ver off _ c=>match c with
  | 0=>none
  | _+1=>some (.ptr id ver off)
 | .slg id ver off l _=>match l with
  | 0=>none
  | _+1=>some (.ptr id ver off)
 | _=>none
def capA (x:AV):Option AV:=match x with
 | .slc _ _ _ _ c=>some (.int .i64 c)
 | .nils _ c=>some (.int .i64 c)
 | _=>none
def ju (t:TypeId):Bool:=match P.underlying t with
 | some (.slice _)=>true
 | _=>false
def qZ (t:TypeId):Option Bool:=match P.underlying t with
 | none=>none
 | some u=>match u with
  | .int _=>some true
  | _=>some false
def lenE (h:AHeap) (t:TypeId) (x:AV):Option AV:=match zrd P h t x with
 | none=>none
 | some n=>some (.int .i64 n)
def capE (t:TypeId) (x:AV):Option AV:=match ju P t with
 | true=>capA x
 | false=>none
def zrn (l:List AV):Option AV:=match l with
 | [x]=>some x
 | _=>none
def zoe (l:List AV):Option (AV × AV):=match l with
 | [x,y]=>some (x,y)
 | _=>none
def znm (mx:Bool) (l:List AV):Option AV:=match l with
 | []=>none
 | x::r=>znR (zqF mx) x r
def zL (h:AHeap) (b:Builtin) (t:Option TypeId) (args:List AV):Option AV:=match b with
 | .len=>match t with
  | none=>none
  | some t=>match zrn args with
   | none=>none
   | some x=>lenE P h t x
 | .cap=>match t with
  | none=>none
  | some t=>match zrn args with
   | none=>none
   | some x=>capE P t x
 | .max=>znm true args
 | .min=>znm false args
 | .unsafeSliceData=>match zrn args with
  | none=>none
  | some x=>zbD x
 | _=>none
def qB:Builtin→Bool
 | .len | .cap | .max | .min | .unsafeSliceData=>true
 | _=>false
def zgA (h:AHeap) (t u:Option TypeId) (args:List AV):Option AR:=match t with
 | none=>none
 | some t=>match u with
  | none=>none
  | some u=>match qZ P u with
   | none=>none
   | some z=>match zoe args with
    | none=>none
    | some (s,x)=>wk (qS P h t z s x)
def zp0 (h:AHeap) (t:TypeId) (args:List AV):Option AR:=match zoe args with
 | none=>none
 | some (d,s)=>wk (zqf P h t d s)
def zj2 (h:AHeap) (t:TypeId) (args:List AV):Option AR:=match zrn args with
 | none=>none
 | some x=>zdA (zbG P h t x)
def zgV (h:AHeap) (t:TypeId) (args:List AV):Option AR:=match zoe args with
 | none=>none
 | some (m,k)=>zdA (zgL P h t m k)
def zbU (h:AHeap) (t:TypeId) (args:List AV):Option AR:=match vU P t with
 | none=>none
 | some el=>match jK P el with
  | false=>none
  | true=>match zoe args with
   | none=>none
   | some (p,n)=>wk (qt P h el p n)
def zi (h:AHeap) (b:Builtin) (t u:Option TypeId) (args:List AV):Option AR:=match b with
 | .append=>zgA P h t u args
 | .recover=>match args with
  | []=>some .recover
  | _=>none
 | b=>match t with
  | none=>none
  | some t=>match b with
   | .copy=>zp0 P h t args
   | .clear=>zj2 P h t args
   | .delete=>zgV P h t args
   | .unsafeString=>zbU P h t args
   | _=>none
def yh (h:AHeap) (b:Builtin) (argTypes:Array TypeId) (args:List AV):Option AR:=match qB b with
 | true=>yp h (zL P h b argTypes[0]? args)
 | false=>zi P h b argTypes[0]? argTypes[1]? args
def zlx (h:AHeap) (f:AV) (args:List AV):Option AR:=match f with
 | .fn f first cap=>wx P h f (first++args) cap
 | .yld id=>some (.round id args)
 | _=>none
def xi (ρ:Operand→Option AV) (h:AHeap) (c:Call):Option AR:=match qD ρ c.args.toList with
 | none=>none
 | some args=>match c.callee with
  | .builtin b=>yh P h b c.argTypes args
  | .invoke r name=>match ρ r with
   | none=>none
   | some x=>xK P h x name args
  | .value f=>match ρ f with
   | none=>none
   | some f=>zlx P h f args
def zav (ρ:Operand→Option AV) (c:Call):Option AR:=match qD ρ c.args.toList with
 | none=>none
 | some args=>match c.callee with
  | .value f=>match ρ f with
   | some (.fn f first cap)=>some (.dfr { tgt:=.fn f cap,args:=first++args })
   | _=>none
  | .invoke r name=>match ρ r with
   | none=>none
   | some x=>some (.dfr { tgt:=.fn (.method name) [],args:=x::args })
  | _=>none
def yR (ρ:Operand→Option AV) (o:Option Operand):Option (Option Int):=match o with
 | none=>some none
 | some x=>match ρ x with
  | some (.int _ n)=>some (some n)
  | _=>none
def zqw (ρ:Operand→Option AV) (c:Option AV) (a b:Operand):Option AV:=match c with
 | some (.bool t)=>match t with
  | true=>ρ a
  | false=>ρ b
 | _=>none
def q9 (ρ:Operand→Option AV) (l:List (Nat × Operand)):Option (List (Nat × AV)):=qD (fun p=>match ρ p.2 with
 | none=>none
 | some v=>some (p.1,v)) l
def zf9 (x:AV):Option AV:=match x with
 | .ptr id ver off=>some (.ptr id ver off)
 | .gp g off=>some (.gp g off)
 | .fn f fs cs=>match f with
  | .func f=>some (.fn (.func f) fs cs)
  | _=>none
 | .ifc t v=>some (.ifc t v)
 | .yld id=>some (.yld id)
 | _=>none
def zdN (t:TypeId) (v:AV):Option AV:=match P.underlying t with
 | none=>none
 | some u=>match u with
  | .interface _=>none
  | _=>some (.ifc t v)
def zgp (ρ:Operand→Option AV) (f:Fn) (first cap:Array Operand):Option AV:=match f with
 | .yield _=>none
 | f=>match qD ρ first.toList with
  | none=>none
  | some fs=>match qD ρ cap.toList with
   | none=>none
   | some cs=>some (.fn f fs cs)
def zin (x:Option AV) (i:Nat):Option AV:=match x with
 | some (.tup vs)=>vs[i]?
 | _=>none
def wC (ρ:Operand→Option AV) (h:AHeap) (t:TypeId) (x:Operand) (lo hi mx:Option Operand):Option AV:=match ρ x with
 | none=>none
 | some v=>match yR ρ lo with
  | none=>none
  | some l=>match yR ρ hi with
   | none=>none
   | some hh=>match yR ρ mx with
    | none=>none
    | some m=>zN P h t v l hh m
def two (ρ:Operand→Option AV) (x y:Operand) (f:AV→AV→Option AR):Option AR:=match ρ x with
 | none=>none
 | some a=>match ρ y with
  | none=>none
  | some b=>f a b
def y8 (ρ:Operand→Option AV) (x:Operand) (f:AV→Option AR):Option AR:=match ρ x with
 | none=>none
 | some a=>f a
def jg (h:AHeap) (t:TypeId) (z:Option AV):Option AR:=match z with
 | none=>none
 | some z=>wk (zjL P h t z)
def zfK (ρ:Operand→Option AV) (h:AHeap) (t:TypeId) (r:Option Operand):Option AR:=match r with
 | none=>some (.val (.mp h.next) (h.new (.map [] 0)))
 | some x=>match ρ x with
  | some (.int _ _)=>match zf0 P t with
   | none=>none
   | some _=>some (.val (.mp h.next) (h.new (.map [] 0)))
  | _=>none
def ziI (h:AHeap) (t:TypeId) (x:AV):Option AR:=match x with
 | .str s=>match P.underlying t with
  | some .string=>some (.val (.ptr h.next 0 0) (h.new (.iter s 0)))
  | _=>none
 | _=>none
def zkw (h:AHeap) (id:Nat) (o:Option AObj):Option AR:=match o with
 | some (.iter s pos) =>
  if pos<s.length then
   let r:=Utf8.decode ⟨s.toArray⟩ pos
   some (.val (.tup [.bool true,.int .i64 pos,.int .i32 r.1]) (h.put id (.iter s (pos+r.2))))
  else some (.val (.tup [.bool false]) h)
 | _=>none
def znH (h:AHeap) (x:AV) (isString:Bool):Option AR:=match isString with
 | false=>none
 | true=>match x with
  | .ptr id ver off=>match ver with
   | 0=>match off with
    | 0=>zkw h id (h.get id)
    | _+1=>none
   | _+1=>none
  | _=>none
def zkh (x:AV):Option AR:=match x with
 | .ifc t v=>some (.panic (.ifc t v))
 | _=>none
def zY (h:AHeap) (t:TypeId) (n:Nat) (l:Option (List (Nat × AV))):Option AR:=match l with
 | none=>none
 | some l=>wk (zg P h t n l)
def vE (h:AHeap) (t:TypeId) (l:Option (List (Nat × AV))):Option AR:=match l with
 | none=>none
 | some l=>yp h (qa P t l)
def yl (ρ:Operand→Option AV) (h:AHeap) (t:TypeId) (m k v:Operand):Option AR:=match ρ m with
 | none=>none
 | some a=>match ρ k with
  | none=>none
  | some b=>match ρ v with
   | none=>none
   | some c=>zcE (zdq P h t a b c)
def wM (ρ:Operand→Option AV) (h:AHeap) (m s v:Operand):Option AR:=match ρ m with
 | none=>none
 | some a=>match ρ s with
  | none=>none
  | some b=>match ρ v with
   | none=>none
   | some c=>zcE (ka h a b c)
def zeZ (h:AHeap) (s d:TypeId) (x:AV):Option AR:=match ju P d with
 | true=>wk (qc P h s d x)
 | false=>yp h (zcp P h s d x)
end
def zk6 (_:Program) (x:Operand) (ρ:Operand→Option AV) (h:AHeap):Option AR:=yp h (ρ x)
def zfd (_:Program) (x:Operand) (ρ:Operand→Option AV) (h:AHeap):Option AR:=yp h (ρ x)
def zbg (_:Program) (c a b:Operand) (ρ:Operand→Option AV) (h:AHeap):Option AR:=yp h (zqw ρ (ρ c) a b)
def yv (P:Program) (t:TypeId) (_:Operand→Option AV) (h:AHeap):Option AR:=jg P h t (qj P t)
def zcZ (P:Program) (t:TypeId) (x:Operand) (ρ:Operand→Option AV) (h:AHeap):Option AR:=y8 ρ x fun v=>wk (zjL P h t v)
def kK (P:Program) (t:TypeId) (parts:Array (Nat × Operand)) (ρ:Operand→Option AV) (h:AHeap):Option AR:=vE P h t (q9 ρ parts.toList)
def zM (P:Program) (t:TypeId) (n:Nat) (parts:Array (Nat × Operand)) (ρ:Operand→Option AV) (h:AHeap):Option AR:=zY P h t n (q9 ρ parts.toList)
def qi (P:Program) (t:TypeId) (m k v:Operand) (ρ:Operand→Option AV) (h:AHeap):Option AR:=yl P ρ h t m k v
def wH (P:Program) (t:TypeId) (a:Operand) (ρ:Operand→Option AV) (h:AHeap):Option AR:=y8 ρ a fun p=>yp h (zaK P h t p)
def zhP (P:Program) (t:TypeId) (a x:Operand) (ρ:Operand→Option AV) (h:AHeap):Option AR:=two ρ a x fun p v=>zcE (kG P h t p v)
def znt (_:Program) (_:Nat) (_:Operand→Option AV) (_:AHeap):Option AR:=none
def znT (_:Program) (_:Nat) (_:Operand→Option AV) (_:AHeap):Option AR:=none
def zbE (_:Program) (x:Operand) (ρ:Operand→Option AV) (h:AHeap):Option AR:=y8 ρ x fun v=>yp h (zf9 v)
def za2 (P:Program) (op:BinOp) (t:TypeId) (x y:Operand) (_:TypeId) (ρ:Operand→Option AV) (h:AHeap):Option AR:=two ρ x y fun a b=>yp h (qq P h op t (xn x || xn y) a b)
def zlp (_:Program) (op:UnOp) (_:TypeId) (x:Operand) (ρ:Operand→Option AV) (h:AHeap):Option AR:=y8 ρ x fun v=>yp h (unA op v)
def zc2 (P:Program) (s d:TypeId) (x:Operand) (ρ:Operand→Option AV) (h:AHeap):Option AR:=y8 ρ x fun v=>zeZ P h s d v
def wm (_:Program) (_:TypeId) (_:Operand) (_:Operand→Option AV) (_:AHeap):Option AR:=none
def wc (P:Program) (t:TypeId) (x:Operand) (ρ:Operand→Option AV) (h:AHeap):Option AR:=y8 ρ x fun v=>yp h (zdN P t v)
def yP (_:Program) (f:Fn) (first cap:Array Operand) (ρ:Operand→Option AV) (h:AHeap):Option AR:=yp h (zgp ρ f first cap)
def yG (P:Program) (t:TypeId) (r:Option Operand) (ρ:Operand→Option AV) (h:AHeap):Option AR:=zfK P ρ h t r
def zhe (_:Program) (_:TypeId) (_:Operand) (_:Operand→Option AV) (_:AHeap):Option AR:=none
def xM (P:Program) (t:TypeId) (l c:Operand) (ρ:Operand→Option AV) (h:AHeap):Option AR:=two ρ l c fun a b=>wk (zR P h t a b)
def qR (P:Program) (t:TypeId) (x:Operand) (lo hi mx:Option Operand) (ρ:Operand→Option AV) (h:AHeap):Option AR:=yp h (wC P ρ h t x lo hi mx)
def zas (P:Program) (s:TypeId) (x:Operand) (f:Nat) (ρ:Operand→Option AV) (h:AHeap):Option AR:=y8 ρ x fun v=>yp h (jL P s v f)
def zhR (P:Program) (t:TypeId) (x:Operand) (f:Nat) (ρ:Operand→Option AV) (h:AHeap):Option AR:=y8 ρ x fun v=>yp h (zkr P t v f)
def xR (P:Program) (t:TypeId) (x ix:Operand) (ρ:Operand→Option AV) (h:AHeap):Option AR:=two ρ x ix fun v i=>yp h (zf P t v i)
def zaU (P:Program) (t:TypeId) (x ix:Operand) (ρ:Operand→Option AV) (h:AHeap):Option AR:=two ρ x ix fun v i=>yp h (ze5 P t v i)
def zeS (P:Program) (t:TypeId) (m k:Operand) (ok:Bool) (ρ:Operand→Option AV) (h:AHeap):Option AR:=two ρ m k fun a b=>yp h (zbw P h t a b ok)
def xQ (P:Program) (t:TypeId) (m k v:Operand) (ρ:Operand→Option AV) (h:AHeap):Option AR:=yl P ρ h t m k v
def zbR (P:Program) (t:TypeId) (m k:Operand) (ρ:Operand→Option AV) (h:AHeap):Option AR:=two ρ m k fun a b=>wk (zbr P h t a b)
def xC (_:Program) (_:TypeId) (m s x:Operand) (ρ:Operand→Option AV) (h:AHeap):Option AR:=wM ρ h m s x
def ziw (P:Program) (t:TypeId) (x:Operand) (ρ:Operand→Option AV) (h:AHeap):Option AR:=y8 ρ x fun v=>ziI P h t v
def zlt (_:Program) (it:Operand) (isString:Bool) (ρ:Operand→Option AV) (h:AHeap):Option AR:=y8 ρ it fun v=>znH h v isString
def zm0 (_:Program) (_:Operand) (_:Operand→Option AV) (_:AHeap):Option AR:=none
def jn (P:Program) (x:Operand) (_ t:TypeId) (ok:Bool) (ρ:Operand→Option AV) (h:AHeap):Option AR:=y8 ρ x fun v=>yp h (zgy P v t ok)
def ql (_:Program) (x:Operand) (i:Nat) (ρ:Operand→Option AV) (h:AHeap):Option AR:=yp h (zin (ρ x) i)
def zkp (P:Program) (c:Call) (ρ:Operand→Option AV) (h:AHeap):Option AR:=xi P ρ h c
def op_go (_:Program) (_:Call) (_:Operand→Option AV) (_:AHeap):Option AR:=none
def zh2 (_:Program) (c:Call) (ρ:Operand→Option AV) (_:AHeap):Option AR:=zav ρ c
def ziH (_:Program) (x:Operand) (ρ:Operand→Option AV) (_:AHeap):Option AR:=y8 ρ x zkh
def zqD (_:Program) (_ _:Operand) (_:Operand→Option AV) (_:AHeap):Option AR:=none
def zqu (_:Program) (_:TypeId) (_:Operand) (_:Bool) (_:Operand→Option AV) (_:AHeap):Option AR:=none
def zlm (_:Program) (_:Array SelectCase) (_:Bool) (_:Operand→Option AV) (_:AHeap):Option AR:=none
def opA (P:Program) (ρ:Operand→Option AV) (h:AHeap) (o:Op):Option AR :=
 Op.rec (motive:=fun _=>(Operand→Option AV)→AHeap→Option AR)
  (zk6 P) (zfd P) (zbg P) (yv P) (zcZ P) (kK P) (zM P) (qi P) (wH P) (zhP P) (znt P) (znT P) (zbE P) (za2 P) (zlp P) (zc2 P) (wm P) (wc P) (yP P) (yG P) (zhe P) (xM P) (qR P) (zas P) (zhR P) (xR P) (zaU P) (zeS P) (xQ P) (zbR P) (xC P) (ziw P) (zlt P) (zm0 P) (jn P) (ql P) (zkp P) (op_go P) (zh2 P) (ziH P) (zqD P) (zqu P) (zlm P)
  o ρ h
section
variable (P:Program)
def wl (ρ:Operand→Option AV) (h:AHeap) (o:Op):Option AV:=match opA P ρ h o with
 | some (.val v _)=>some v
 | _=>none
def jA:Op→Bool
 | .move _ | .assign _ | .pick .. | .build .. | .nilCheck _ | .unOp .. | .makeInterface .. | .makeFunc .. | .fieldAddr .. | .field ..
 | .indexAddr .. | .index .. | .typeAssert .. | .extract ..=>true
 | _=>false
def yq:Op→Bool
 | .load .. | .binOp .. | .lookup .. | .slice ..=>true
 | .convert _ d _=>!(ju P d)
 | .call c=>match c.callee with
  | .builtin b=>qB b
  | _=>false
 | _=>false
end
end
end Go.Proofs.Ytcdigdplhlgcaaa.Ev
end
section
namespace Go.Proofs.Ytcdigdplhlgcaaa.Ev
open Go
noncomputable section
section
variable (P:Program)
def xj (op:Op):Bool:=match op with
 | .alloc _ | .box .. | .buildSlice .. | .makeSlice ..=>true
 | .makeMap _ none=>true
 | _=>false
def yL (o:Oper):Bool:=match o.op with
 | .assign _=>true
 | op=>!(jA op || yq P op || xj op)
def wP (a b:Nat):Bool:=Nat.beq (Nat.land a b) a
def zl8 (anc:List Nat) (o:Oper):Nat :=
 o.after.toList.foldl (fun s e=>if Region.binds .any e then Nat.lor s (Nat.lor (2 ^ e.on) (anc.getD e.on 0)) else s) 0
def zpk:List Oper→List Nat→List Nat
 | [],acc=>acc
 | o::r,acc=>zpk r (acc++[zl8 acc o])
def ancs (ops:List Oper):List Nat:=zpk ops []
def zbF:List Oper→Nat→Nat
 | [],_=>0
 | o::r,i=>if yL P o then Nat.lor (2 ^ i) (zbF r (i+1)) else zbF r (i+1)
def zqR (anc:List Nat) (done:Nat) (want:Nat→Bool):List Nat→Option Nat
 | []=>none
 | i::r=>if want i&&wP (anc.getD i 0) done then some i else zqR anc done want r
def zg6 (anc:List Nat) (em:Nat):Nat→List Nat→Nat→List Nat
 | 0,_,_=>[]
 | f+1,left,done =>
  match zqR anc done (fun i=>!em.testBit i) left with
  | some i=>i::zg6 anc em f (left.filter (fun j=>!(Nat.beq j i))) (Nat.lor done (2 ^ i))
  | none=>match zqR anc done (fun i=>em.testBit i) left with
   | some i=>i::zg6 anc em f (left.filter (fun j=>!(Nat.beq j i))) (Nat.lor done (2 ^ i))
   | none=>[]
def zO (ops:List Oper) (o:Oper):List Nat :=
 o.op.operands.toList.filterMap (fun | .tmp t=>some t | _=>none) ++
  (match o.guard with
   | some (g,_)=>match ops[g]? with
    | some q=>q.dst.toList
    | none=>[]
   | none=>[])
def wW (ops:List Oper) (anc:List Nat) (i:Nat) (o:Oper) (j:Nat) (q:Oper):Bool :=
 match o.dst with
 | none=>true
 | some t =>
  if Nat.beq i j then yL P o || !((zO ops o).contains t)
  else if yL P o then
   (if (zO ops q).contains t || q.dst==some t then (anc.getD j 0).testBit i || (anc.getD i 0).testBit j else true)
  else
   !(q.dst==some t)&&(if (zO ops q).contains t then (anc.getD j 0).testBit i else true)
def kN {α:Type} (f:Nat→α→Bool):List α→Nat→Bool
 | [],_=>true
 | a::r,i=>f i a&&kN f r (i+1)
def zpF (anc:List Nat) (em done j p:Nat):Bool :=
 em.testBit p || done.testBit p || (anc.getD p 0).testBit j || !(wP (Nat.land (anc.getD p 0) em) done)
def yc (ops:List Oper) (anc:List Nat) (em:Nat):List Nat→Nat→Bool
 | [],done=>Nat.beq done (Nat.sub (Nat.pow 2 ops.length) 1)
 | j::r,done =>
  Nat.blt j ops.length&&!done.testBit j&&wP (anc.getD j 0) done &&
  (if em.testBit j then wP (Nat.land em done) (anc.getD j 0)&&kN (fun p _=>zpF anc em done j p) ops 0 else true) &&
  yc ops anc em r (Nat.lor done (2 ^ j))
structure Plan where
 anc:List Nat
 em:Nat
 ord:List Nat
def zE (ops:List Oper):Plan :=
 let anc:=ancs ops
 let em:=zbF P ops 0
 { anc,em,ord:=zg6 anc em ops.length (List.range ops.length) 0 }
def znw (ops:List Oper) (anc:List Nat):Bool :=
 kN (fun j o=>match o.guard with
  | none=>true
  | some (g,_)=>(anc.getD j 0).testBit g) ops 0
def ziM (ops:List Oper) (pl:Plan):Bool :=
 Nat.beq pl.ord.length ops.length &&
 kN (fun j o=>Nat.beq (pl.anc.getD j 0) (zl8 pl.anc o)) ops 0 &&
 kN (fun j o=>pl.em.testBit j==yL P o) ops 0 &&
 yc ops pl.anc pl.em pl.ord 0 &&
 znw ops pl.anc &&
 kN (fun i o=>kN (fun j q=>wW P ops pl.anc i o j q) ops 0) ops 0
end
inductive AItem where
 | code (c:Code)
 | inBlock (id:Nat)
 | inLoop (body:Code)
 | inScope (body:Code)
 | ops (all:List Oper) (l:List Oper)
 | drw (all:Array Oper) (todo dn:List Nat)
 | inRange (id:Nat)
 | endRange (id:Nat)
 | beginRound
inductive AMode where
 | run
 | returning
 | panicking (chain:List (AV × Bool))
structure AFrame where
 fn:FuncId
 n:Nat
 tmps:T AV
 todo:List AItem
 defers:List ADef
 mode:AMode
 kind:CallKind
 round:Option Nat
structure AM where
 top:AFrame
 rest:List AFrame
 heap:AHeap
def AFrame.withTodo (fr:AFrame) (k:List AItem):AFrame:=match fr with
 | ⟨fn,n,t,_,ds,mode,kind,round⟩=>⟨fn,n,t,k,ds,mode,kind,round⟩
def AFrame.withMode (fr:AFrame) (m:AMode):AFrame:=match fr with
 | ⟨fn,n,t,todo,ds,_,kind,round⟩=>⟨fn,n,t,todo,ds,m,kind,round⟩
def AFrame.withDefers (fr:AFrame) (ds:List ADef):AFrame:=match fr with
 | ⟨fn,n,t,todo,_,mode,kind,round⟩=>⟨fn,n,t,todo,ds,mode,kind,round⟩
def zj5 (t:T AV) (n:Nat) (dst:Option Nat) (v:AV):Option (T AV):=match dst with
 | none=>some t
 | some d=>match Nat.blt d n with
  | true=>some (t.set (some v) d)
  | false=>none
def zgn (v:Option AV):Option (Option Bool):=match v with
 | some (.bool b)=>some (some b)
 | some (.tup l)=>match l with
  | []=>some none
  | _::_=>none
 | _=>none
def zrF (a b:Bool):Bool:=match a with
 | true=>b
 | false=>!b
def zmH (want:Bool) (v:Option (Option Bool)):Option Bool:=match v with
 | none=>none
 | some v=>match v with
  | none=>some false
  | some b=>some (zrF b want)
def zf1 (t:T AV) (d:Option Nat):Option AV:=match d with
 | none=>none
 | some d=>t.get d
def zlL (o:Option Oper):Option Nat:=match o with
 | none=>none
 | some o=>o.dst
def xd (ops:List Oper) (t:T AV) (g:Option (Nat × Bool)):Option Bool:=match g with
 | none=>some true
 | some (j,want)=>zmH want (zgn (zf1 t (zlL ops[j]?)))
section
variable (P:Program)
def zqz (u v:Option AV):Bool:=match u with
 | none=>false
 | some u=>match v with
  | none=>false
  | some v=>wJ 300 u v
def qO (all:List Oper) (t:T AV) (h:AHeap) (o:Oper):Bool:=match xd all t o.guard with
 | none=>false
 | some w=>match w with
  | false=>true
  | true=>match o.dst with
   | none=>(wl P (ev t) h o.op).isSome
   | some d=>zqz (wl P (ev t) h o.op) (t.get d)
def vv (all:List Oper) (anc:Nat) (t:T AV) (h:AHeap) (p:Nat) (o:Option Oper):Bool:=match o with
 | none=>true
 | some o=>match yq P o.op&&!(anc.testBit p) with
  | false=>true
  | true=>qO P all t h o
def yW (all:List Oper) (anc:Nat) (t:T AV) (h:AHeap):List Nat→Bool
 | []=>true
 | p::r=>vv P all anc t h p all[p]?&&yW all anc t h r
def zoI (fr:AFrame) (all:List Oper) (l:List Oper) (k:List AItem) (t:Option (T AV)):Option AFrame:=match t with
 | none=>none
 | some t=>match fr with
  | ⟨fn,n,_,_,ds,mode,kind,round⟩=>some ⟨fn,n,t,.ops all l::k,ds,mode,kind,round⟩
def zdc (fr:AFrame) (h:AHeap) (all:Array Oper) (i:Nat) (o:Oper) (l dn:List Nat) (k:List AItem) (t:Option (T AV)):Option AFrame:=match t with
 | none=>none
 | some t=>match (yL P o || xj o.op)&&!(yW P all.toList (bif yL P o then (zE P all.toList).anc.getD i 0 else 0) t h dn) with
  | true=>none
  | false=>match fr with
   | ⟨fn,n,_,_,ds,mode,kind,round⟩=>some ⟨fn,n,t,.drw all l (i::dn)::k,ds,mode,kind,round⟩
def z7 (fr:AFrame) (h:AHeap) (v:AV):Option AFrame:=match fr.todo with
 | []=>none
 | it::k=>match it with
  | .ops all l=>match l with
   | []=>none
   | o::l=>zoI fr all l k (zj5 fr.tmps fr.n o.dst v)
  | .drw all l dn=>match l with
   | []=>none
   | i::l=>match all[i]? with
    | none=>none
    | some o=>zdc P fr h all i o l dn k (zj5 fr.tmps fr.n o.dst v)
  | .inRange l=>some (fr.withTodo (.endRange l::k))
  | .beginRound=>some (fr.withTodo k)
  | _=>none
def qk (t:T AV):List Oper→T AV
 | []=>t
 | o::r=>match o.dst with
  | none=>qk t r
  | some d=>qk (t.set none d) r
def zg1 (t:T AV) (todo:List AItem):T AV:=match todo with
 | .drw all _ _::_=>qk t all.toList
 | _=>t
def zg3 (mode:AMode):List (AV × Bool):=match mode with
 | .panicking c=>c
 | _=>[]
def zhy (fr:AFrame) (chain:List (AV × Bool)):AFrame:=match fr with
 | ⟨fn,n,t,todo,ds,mode,kind,round⟩=>⟨fn,n,zg1 t todo,todo,ds,.panicking (chain++zg3 mode),kind,round⟩
def zbS:List AV→Nat→T AV→T AV
 | [],_,t=>t
 | v::r,i,t=>zbS r (i+1) (t.set (some v) i)
def jy (f:FuncId) (args:List AV) (kind:CallKind):Option AFrame:=match P.funcs[f]? with
 | none=>none
 | some fn=>match fn.body with
  | none=>none
  | some c=>some ⟨f,max args.length fn.ntmps,zbS args 0 .leaf,[.code c],[],.run,kind,none⟩
def zeQ (id:Nat):List AItem→Option (List AItem)
 | []=>none
 | it::k=>match it with
  | .inBlock id'=>match Nat.beq id' id with
   | true=>some k
   | false=>zeQ id k
  | _=>zeQ id k
def zeE (l:Nat):List AItem→Option (List AItem)
 | []=>none
 | it::k=>match it with
  | .inScope body=>match findLabel body l with
   | some rest=>some (.code rest::.inScope body::k)
   | none=>zeE l k
  | _=>zeE l k
def znx (v:Option AV) (l:Option (List AV)):Option (List AV):=match v with
 | none=>none
 | some v=>match l with
  | none=>none
  | some l=>some (v::l)
def zq7 (h:AHeap) (ty:TypeId) (p:Option AV):Option AV:=match p with
 | none=>none
 | some p=>zaK P h ty p
def vq (h:AHeap) (t:T AV):List ResultVar→Option (List AV)
 | []=>some []
 | x::r=>match x with
  | .tmp x=>znx (t.get x) (vq h t r)
  | .cell a ty=>znx (zq7 P h ty (t.get a)) (vq h t r)
def zq2 (l:Option (List AV)):Option AV:=match l with
 | none=>none
 | some l=>match l with
  | [v]=>some v
  | l=>some (.tup l)
def zp9 (fr:AFrame) (h:AHeap):Option AV:=match P.funcs[fr.fn]? with
 | none=>none
 | some fn=>zq2 (vq P h fr.tmps fn.results.toList)
def zaN (rest:List AFrame) (heap:AHeap) (fr:Option AFrame):Option AM:=match fr with
 | none=>none
 | some fr=>some ⟨fr,rest,heap⟩
def zmy (c:AFrame):AFrame:=match c.mode with
 | .panicking ((_,true)::_)=>c.withMode .returning
 | _=>c
def vX (kind:CallKind) (rest:List AFrame) (heap:AHeap) (v:AV):Option AM:=match rest with
 | []=>none
 | c::r=>match kind with
  | .normal=>match c.mode with
   | .run=>zaN r heap (z7 P c heap v)
   | _=>none
  | .deferred=>match c.mode with
   | .run=>none
   | _=>some ⟨zmy c,r,heap⟩
  | _=>none
def yC (kind:CallKind) (rest:List AFrame) (heap:AHeap) (l:Nat) (jump:Option Code):Option AM:=match heap.get l with
 | some (.loop lp)=>match lp with
  | ⟨_,_,fn,n,tmps,params,assign,body,defers⟩ =>
   vX P kind rest (heap.put l (.loop ⟨if jump.isNone then .ready else .done,jump,fn,n,tmps,params,assign,body,defers⟩)) (.bool jump.isNone)
 | _=>none
def vI (fr:AFrame) (rest:List AFrame) (heap:AHeap) (jump:Option Code):Option AM:=match fr.round with
 | none=>match jump with
  | none=>some ⟨fr.withMode .returning,rest,heap⟩
  | some .ret=>some ⟨fr.withMode .returning,rest,heap⟩
  | some _=>none
 | some l=>yC P fr.kind rest heap l jump
def jE:List Tmp→List AV→T AV→T AV
 | p::ps,v::vs,t=>jE ps vs (t.set (some v) p)
 | _,_,t=>t
def zfj (fr:AFrame) (rest:List AFrame) (heap:AHeap) (l:Nat) (args:List AV):Option AM:=match heap.get l with
 | some (.loop lp)=>match lp with
  | ⟨_,_,fn,n,tmps,params,assign,body,_⟩ =>
   if args.length=params.size∧params.toList.all (fun p=>decide (p<n))=true∧P.funcs[fn]?.isSome=true then
    some ⟨⟨fn,n,jE params.toList args tmps,[.code assign,.beginRound,.code body],[],.run,.normal,some l⟩,fr::rest,heap⟩
   else none
 | _=>none
def vM (heap:AHeap) (l:Nat):Option ALoop:=match heap.get l with
 | some (.loop lp)=>some lp
 | _=>none
def zcd (heap:AHeap) (l:Nat):Option (List ADef):=match heap.get l with
 | some (.dfrd (some ds))=>some ds
 | _=>none
def zgZ (fr:AFrame) (rest:List AFrame) (heap:AHeap) (d:ADef):Option AM:=match fr.round with
 | none=>zaN rest heap (z7 P (fr.withDefers (d::fr.defers)) heap xE)
 | some _=>none
def zeI (fr:AFrame) (c:AFrame) (r:List AFrame) (heap:AHeap):Option AM:=match c.mode with
 | .panicking ((v,false)::older)=>zaN (c.withMode (.panicking ((v,true)::older))::r) heap (z7 P fr heap v)
 | _=>zaN (c::r) heap (z7 P fr heap .nili)
def zdw (fr:AFrame) (rest:List AFrame) (heap:AHeap):Option AM:=match fr.round with
 | some _=>none
 | none=>match fr.kind with
  | .deferred=>match rest with
   | []=>none
   | c::r=>zeI P fr c r heap
  | _=>none
class XT (P:Program) where
 tab:FuncId→Option (AHeap→List AV→Option (AV × T AObj × Nat))
instance (priority:=10) noXT:XT P:=⟨fun _=>none⟩
def zmv [XT P] (h:AHeap) (f:FuncId) (args:List AV):Option (AV × AHeap):=match XT.tab (P:=P) f with
 | none=>none
 | some F=>match F h args with
  | none=>none
  | some (v,o,n)=>some (v,⟨o,n,h.glob⟩)
def zkZ [XT P] (fr:AFrame) (rest:List AFrame) (h:AHeap) (f:FuncId) (args:List AV):Option AM:=match zmv P h f args with
 | none=>zaN (fr::rest) h (jy P f args .normal)
 | some (v,h')=>zaN rest h' (z7 P fr h' v)
def zmQ [XT P] (fr:AFrame) (rest:List AFrame) (heap:AHeap) (r:AR):Option AM:=match r with
 | .val v h=>zaN rest h (z7 P fr h v)
 | .skip h=>zaN rest h (z7 P fr h xE)
 | .enter f args h=>zkZ P fr rest h f args
 | .round l args=>zfj P fr rest heap l args
 | .dfr d=>zgZ P fr rest heap d
 | .recover=>zdw P fr rest heap
 | .panic v=>some ⟨zhy fr [(v,false)],rest,heap⟩
def zgM [XT P] (fr:AFrame) (rest:List AFrame) (heap:AHeap) (r:Option AR):Option AM:=match r with
 | none=>none
 | some r=>zmQ P fr rest heap r
def zaz [XT P] (fr:AFrame) (rest:List AFrame) (heap:AHeap) (all:List Oper) (o:Oper):Option AM:=match xd all fr.tmps o.guard with
 | none=>none
 | some w=>match w with
  | false=>zaN rest heap (z7 P fr heap xE)
  | true=>zgM P fr rest heap (opA P (ev fr.tmps) heap o.op)
def zp6 [XT P] (fr:AFrame) (rest:List AFrame) (heap:AHeap) (all:List Oper) (o:Option Oper):Option AM:=match o with
 | none=>none
 | some o=>zaz P fr rest heap all o
def zfL (fr:AFrame) (rest:List AFrame) (r:Option AR):Option AM:=match r with
 | some (.enter g args h)=>zaN (fr::rest) h (jy P g args .deferred)
 | _=>none
def kB (fr:AFrame) (rest:List AFrame) (heap:AHeap) (d:ADef) (ds:List ADef):Option AM:=match d.tgt with
 | .collected id=>match zcd heap id with
  | none=>none
  | some cs=>some ⟨fr.withDefers (cs++ds),rest,heap.put id (.dfrd none)⟩
 | .fn f cap=>zfL P (fr.withDefers ds) rest (wx P heap f d.args cap)
 | .nil=>none
def zd9 (kind:CallKind) (rest:List AFrame) (heap:AHeap) (v:Option AV):Option AM:=match v with
 | none=>none
 | some v=>vX P kind rest heap v
def zaa (fr:AFrame) (rest:List AFrame) (heap:AHeap):Option AM:=match fr.defers with
 | d::ds=>kB P fr rest heap d ds
 | []=>match fr.mode with
  | .run=>none
  | .panicking chain=>match rest with
   | []=>none
   | c::r=>some ⟨zhy c chain,r,heap⟩
  | .returning=>zd9 P fr.kind rest heap (zp9 P fr heap)
def toA (fr:AFrame) (rest:List AFrame) (heap:AHeap) (k:List AItem):Option AM:=some ⟨fr.withTodo k,rest,heap⟩
def zq5 (fr:AFrame) (rest:List AFrame) (heap:AHeap) (a b:Code) (k:List AItem) (c:Option AV):Option AM:=match c with
 | some (.bool t)=>match t with
  | true=>toA fr rest heap (.code a::k)
  | false=>toA fr rest heap (.code b::k)
 | _=>none
def zl0 (fr:AFrame) (rest:List AFrame) (heap:AHeap) (ops:Array Oper) (draw:Bool) (k:List AItem):Option AM:=match draw with
 | false=>toA fr rest heap (.ops ops.toList ops.toList::k)
 | true=>match ziM P ops.toList (zE P ops.toList) with
  | false=>none
  | true=>toA fr rest heap (.drw ops (zE P ops.toList).ord []::k)
def ztP (fr:AFrame) (heap:AHeap):Option (Nat × AHeap × List ADef):=match fr.round with
 | some l=>match vM heap l with
  | none=>none
  | some lp=>some (lp.defers,heap,[])
 | none=>some (heap.next,heap.new (.dfrd (some [])),[{ tgt:=.collected heap.next,args:=[] }])
def zcR (fr:AFrame) (rest:List AFrame) (r:Option AR) (l:Nat) (mark:List ADef) (k:List AItem):Option AM:=match r with
 | some (.enter g args h)=>match fr with
  | ⟨fn,n,t,_,ds,mode,kind,round⟩=>zaN (⟨fn,n,t,.inRange l::k,mark++ds,mode,kind,round⟩::rest) h (jy P g args .normal)
 | _=>none
def zmG (fr:AFrame) (rest:List AFrame) (params:Array Tmp) (assign body:Code) (k:List AItem) (f:AV) (d:Nat) (h:AHeap) (mark:List ADef):Option AM :=
 zcR P fr rest (zlx P (h.new (.loop ⟨.ready,none,fr.fn,fr.n,fr.tmps,params,assign,body,d⟩)) f [.yld h.next]) h.next mark k
def jJ (fr:AFrame) (rest:List AFrame) (heap:AHeap) (params:Array Tmp) (assign body:Code) (k:List AItem) (f:Option AV):Option AM:=match f with
 | none=>none
 | some f=>match ztP fr heap with
  | none=>none
  | some (d,h,mark)=>zmG P fr rest params assign body k f d h mark
def ztF (fr:AFrame) (rest:List AFrame) (heap:AHeap) (c:Code) (k:List AItem):Option AM:=match c with
 | .ret=>vI P fr rest heap (some .ret)
 | .skip=>toA fr rest heap k
 | .label _=>toA fr rest heap k
 | .seq a b=>toA fr rest heap (.code a::.code b::k)
 | .cond c a b=>zq5 fr rest heap a b k (ev fr.tmps c)
 | .block id b=>toA fr rest heap (.code b::.inBlock id::k)
 | .loop b=>toA fr rest heap (.code b::.inLoop b::k)
 | .scope b=>toA fr rest heap (.code b::.inScope b::k)
 | .exit id=>match zeQ id k with
  | some k=>toA fr rest heap k
  | none=>vI P fr rest heap (some (.exit id))
 | .goto l=>match zeE l k with
  | some k=>toA fr rest heap k
  | none=>vI P fr rest heap (some (.goto l))
 | .region _ ops draw=>zl0 P fr rest heap ops draw k
 | .rangeFunc f params assign body=>jJ P fr rest heap params assign body k (ev fr.tmps f)
 | .refuse _=>none
def zld (c:Option Code) (k:List AItem):List AItem:=match c with
 | none=>k
 | some c=>.code c::k
def yS (fr:AFrame) (rest:List AFrame) (heap:AHeap) (l:Nat) (k:List AItem):Option AM:=match vM heap l with
 | none=>none
 | some ⟨state,pending,fn,n,tmps,params,assign,body,defers⟩=>match state with
  | .busy=>none
  | _=>some ⟨fr.withTodo (zld pending k),rest,heap.put l (.loop ⟨.exhausted,pending,fn,n,tmps,params,assign,body,defers⟩)⟩
def ze6 (fr:AFrame) (rest:List AFrame) (heap:AHeap) (k:List AItem):Option AM:=match fr.round with
 | none=>none
 | some l=>match vM heap l with
  | none=>none
  | some ⟨state,pending,fn,n,tmps,params,assign,body,defers⟩=>match state with
   | .ready=>some ⟨fr.withTodo k,rest,heap.put l (.loop ⟨.busy,pending,fn,n,tmps,params,assign,body,defers⟩)⟩
   | _=>none
def zqy (c:Code) (fr:AFrame) (rest:List AFrame) (heap:AHeap) (k:List AItem):Option AM:=ztF P fr rest heap c k
def zqW (_:Nat) (fr:AFrame) (rest:List AFrame) (heap:AHeap) (k:List AItem):Option AM:=toA fr rest heap k
def zqb (b:Code) (fr:AFrame) (rest:List AFrame) (heap:AHeap) (k:List AItem):Option AM:=toA fr rest heap (.code b::.inLoop b::k)
def zm1 (_:Code) (fr:AFrame) (rest:List AFrame) (heap:AHeap) (k:List AItem):Option AM:=toA fr rest heap k
def ztw [XT P] (all l:List Oper) (fr:AFrame) (rest:List AFrame) (heap:AHeap) (k:List AItem):Option AM:=match l with
 | []=>toA fr rest heap k
 | o::_=>zaz P fr rest heap all o
def zoE [XT P] (all:Array Oper) (l _:List Nat) (fr:AFrame) (rest:List AFrame) (heap:AHeap) (k:List AItem):Option AM:=match l with
 | []=>toA fr rest heap k
 | i::_=>zp6 P fr rest heap all.toList all[i]?
def ziX (_:Nat) (_:AFrame) (_:List AFrame) (_:AHeap) (_:List AItem):Option AM:=none
def zgR (l:Nat) (fr:AFrame) (rest:List AFrame) (heap:AHeap) (k:List AItem):Option AM:=yS fr rest heap l k
def zmW (fr:AFrame) (rest:List AFrame) (heap:AHeap) (k:List AItem):Option AM:=ze6 fr rest heap k
def ztZ [XT P] (fr:AFrame) (rest:List AFrame) (heap:AHeap) (it:AItem) (k:List AItem):Option AM :=
 AItem.rec (motive:=fun _=>AFrame→List AFrame→AHeap→List AItem→Option AM)
  (zqy P) zqW zqb zm1 (ztw P) (zoE P) ziX zgR zmW it fr rest heap k
def zn5 [XT P] (fr:AFrame) (rest:List AFrame) (heap:AHeap) (todo:List AItem):Option AM:=match todo with
 | []=>vI P fr rest heap none
 | it::k=>ztZ P fr rest heap it k
def kq [XT P] (m:AM):Option AM:=match m with
 | ⟨fr,rest,heap⟩=>match fr.mode with
  | .run=>zn5 P fr rest heap fr.todo
  | _=>zaa P fr rest heap
def zm7 (f0:FuncId) (m:AM):Option AV:=match m with
 | ⟨fr,rest,heap⟩=>match rest with
  | _::_=>none
  | []=>match fr.mode with
   | .returning=>match fr.defers with
    | _::_=>none
    | []=>match fr.kind with
     | .normal=>match Nat.beq fr.fn f0 with
      | true=>zp9 P fr heap
      | false=>none
     | _=>none
   | _=>none
def runA [XT P] (f0:FuncId):Nat→AM→Option AV
 | 0,_=>none
 | n+1,m=>match zm7 P f0 m with
  | some v=>some v
  | none=>match kq P m with
   | none=>none
   | some m=>runA f0 n m
end
end
end Go.Proofs.Ytcdigdplhlgcaaa.Ev
end
section
namespace Go.Proofs.Ytcdigdplhlgcaaa.Ev
open Go
theorem T.get_leaf {α:Type}(n:Nat):(T.leaf:T α).get n=none:=rfl
theorem T.get_node {α:Type}(l:T α)(v:Option α)(r:T α)(n:Nat) :
 (T.node l v r).get n=if n=0 then v else if n % 2=1 then l.get (n / 2) else r.get (n / 2 - 1):=by
 show (bif Nat.beq n 0 then v else bif Nat.beq (Nat.mod n 2) 1 then l.get (Nat.div n 2) else r.get (Nat.sub (Nat.div n 2) 1))=_
 by_cases h0:n=0
 ·subst h0; rfl
 ·have e0:Nat.beq n 0=false:=by cases n <;> simp_all [Nat.beq]
  rw [e0,if_neg h0]
  by_cases h1:n % 2=1
  ·have e1:Nat.beq (Nat.mod n 2) 1=true:=by rw [show Nat.mod n 2=1 from h1]; rfl
   rw [e1,if_pos h1]; rfl
  ·have e1:Nat.beq (Nat.mod n 2) 1=false:=by
    rw [show Nat.mod n 2=0 from by show n % 2=0; omega]; rfl
   rw [e1,if_neg h1]; rfl
theorem T.get_one {α:Type}(x:Option α):∀ (f n m:Nat),n<f→(T.one x f n).get m=if m=n then x else none:=by
 intro f
 induction f with
 | zero=>intro n m h; omega
 | succ f ih =>
  intro n m h;show T.get (bif Nat.beq n 0 then T.node .leaf x .leaf else bif Nat.beq (Nat.mod n 2) 1 then T.node (T.one x f (Nat.div n 2)) none .leaf else T.node .leaf none (T.one x f (Nat.sub (Nat.div n 2) 1))) m=_
  by_cases h0:n=0
  ·subst h0;show T.get (T.node .leaf x .leaf) m=_;rw [T.get_node]
   by_cases hm:m=0
   ·simp [hm]
   ·simp [hm,T.get_leaf]
  ·have e0:Nat.beq n 0=false:=by cases n <;> simp_all [Nat.beq]
   rw [e0]
   by_cases h1:n % 2=1
   ·have e1:Nat.beq (Nat.mod n 2) 1=true:=by rw [show Nat.mod n 2=1 from h1]; rfl
    rw [e1];show T.get (T.node (T.one x f (n / 2)) none .leaf) m=_;rw [T.get_node]
    by_cases hm:m=0
    ·rw [if_pos hm,if_neg (by omega)]
    ·rw [if_neg hm]
     by_cases hm1:m % 2=1
     ·rw [if_pos hm1,ih _ _ (by omega)]
      by_cases e:m=n
      ·rw [if_pos e,if_pos (by omega)]
      ·rw [if_neg e,if_neg (by omega)]
     ·rw [if_neg hm1,T.get_leaf,if_neg (by intro e; subst e; exact hm1 h1)]
   ·have e1:Nat.beq (Nat.mod n 2) 1=false:=by
     rw [show Nat.mod n 2=0 from by show n % 2=0; omega]; rfl
    rw [e1];show T.get (T.node .leaf none (T.one x f (n / 2 - 1))) m=_;rw [T.get_node]
    by_cases hm:m=0
    ·rw [if_pos hm,if_neg (by omega)]
    ·rw [if_neg hm]
     by_cases hm1:m % 2=1
     ·rw [if_pos hm1,T.get_leaf,if_neg (by intro e; subst e; exact h1 hm1)]
     ·rw [if_neg hm1,ih _ _ (by omega)]
      by_cases e:m=n
      ·rw [if_pos e,if_pos (by omega)]
      ·rw [if_neg e,if_neg (by omega)]
theorem T.seq_eq {α β:Type}(t:T α)(f:T α→β):t.seq f=f t:=by cases t <;> rfl
theorem T.get_set {α:Type}(x:Option α):∀ (t:T α) (n m:Nat),(t.set x n).get m=if m=n then x else t.get m:=by
 intro t
 induction t with
 | leaf =>
  intro n m;show (T.one x (Nat.succ n) n).get m=_;rw [T.get_one x _ _ _ (Nat.lt_succ_self n),T.get_leaf]
 | node l v r ihl ihr =>
  intro n m;show T.get (bif Nat.beq n 0 then T.node l x r else bif Nat.beq (Nat.mod n 2) 1 then T.seq (l.set x (Nat.div n 2)) (fun l=>T.node l v r) else T.seq (r.set x (Nat.sub (Nat.div n 2) 1)) (fun r=>T.node l v r)) m=_
  rw [T.seq_eq,T.seq_eq]
  by_cases h0:n=0
  ·subst h0;show T.get (T.node l x r) m=_;rw [T.get_node,T.get_node]
   by_cases hm:m=0
   ·simp [hm]
   ·simp [hm]
  ·have e0:Nat.beq n 0=false:=by cases n <;> simp_all [Nat.beq]
   rw [e0]
   by_cases h1:n % 2=1
   ·have e1:Nat.beq (Nat.mod n 2) 1=true:=by rw [show Nat.mod n 2=1 from h1]; rfl
    rw [e1];show T.get (T.node (l.set x (n / 2)) v r) m=_;rw [T.get_node,T.get_node]
    by_cases hm:m=0
    ·rw [if_pos hm,if_neg (by omega),if_pos hm]
    ·rw [if_neg hm,if_neg hm]
     by_cases hm1:m % 2=1
     ·rw [if_pos hm1,if_pos hm1,ihl]
      by_cases e:m=n
      ·rw [if_pos e,if_pos (by omega)]
      ·rw [if_neg e,if_neg (by omega)]
     ·rw [if_neg hm1,if_neg hm1,if_neg (by intro e; subst e; exact hm1 h1)]
   ·have e1:Nat.beq (Nat.mod n 2) 1=false:=by
     rw [show Nat.mod n 2=0 from by show n % 2=0; omega]; rfl
    rw [e1];show T.get (T.node l v (r.set x (n / 2 - 1))) m=_;rw [T.get_node,T.get_node]
    by_cases hm:m=0
    ·rw [if_pos hm,if_neg (by omega),if_pos hm]
    ·rw [if_neg hm,if_neg hm]
     by_cases hm1:m % 2=1
     ·rw [if_pos hm1,if_pos hm1,if_neg (by intro e; subst e; exact h1 hm1)]
     ·rw [if_neg hm1,if_neg hm1,ihr]
      by_cases e:m=n
      ·rw [if_pos e,if_pos (by omega)]
      ·rw [if_neg e,if_neg (by omega)]
 | fn f =>
  intro n m;show (bif Nat.beq m n then x else f m)=_
  by_cases e:m=n
  ·subst e; rw [Nat.beq_refl,if_pos rfl]; rfl
  ·have:Nat.beq m n=false:=by
    cases hb:Nat.beq m n with
    | false=>rfl
    | true=>exact absurd (Nat.eq_of_beq_eq_true hb) e
   rw [this,if_neg e]; rfl
theorem T.get_set_other {α:Type}(x:Option α)(t:T α){n m:Nat}(h:m≠n):(t.set x n).get m=t.get m:=by rw [T.get_set,if_neg h]
theorem zeh (h:AHeap)(i j:Nat)(o:AObj):(h.put i o).get j=if j=i then some o else h.get j:=by
 cases h; exact T.get_set _ _ _ _
theorem qe (h:AHeap)(i:Nat)(o:AObj):(h.put i o).next=h.next:=by cases h; rfl
theorem zbO (h:AHeap)(j:Nat)(o:AObj):(h.new o).get j=if j=h.next then some o else h.get j:=by
 cases h; exact T.get_set _ _ _ _
theorem zaT (h:AHeap)(i:Nat)(o:AObj):(h.put i o).glob=h.glob:=by cases h; rfl
theorem zid (h:AHeap)(o:AObj):(h.new o).glob=h.glob:=by cases h; rfl
theorem vm (h:AHeap)(o:AObj):(h.new o).next=h.next+1:=by cases h; rfl
structure Loc where
 block:Nat
 minus:Nat
 kap:Nat
abbrev Bij:=Nat→Nat→Option Loc
def Bij.le (R R':Bij):Prop:=∀ i r L,R i r=some L→R' i r=some L
theorem Bij.le_refl (R:Bij):R.le R:=fun _ _ _ h=>h
theorem Bij.le_trans {R R' R'':Bij}(h:R.le R')(h':R'.le R''):R.le R'':=fun i r L e=>h' i r L (h i r L e)
mutual
def VRel (R:Bij):AV→Value→Prop
 | .bool b,v=>v=.bool b
 | .int k n,v=>v=.int k n
 | .str s,v=>v=.string ⟨s.toArray⟩
 | .nilp,v=>v=.pointer none
 | .ptr i r o,v=>∃ L,R i r=some L∧L.minus≤o∧v=.pointer (some ⟨L.block,o - L.minus,none⟩)
 | .gp g o,v=>v=.pointer (some ⟨g,o,none⟩)
 | .nils l c,v=>v=.slice none l c
 | .slc i r o l c,v=>∃ L,R i r=some L∧L.minus≤o∧v=.slice (some ⟨L.block,o - L.minus,none⟩) l c
 | .slg i r o l st,v=>∃ L a,R i r=some L∧L.minus≤o∧st+l≤L.kap∧v=.slice (some a) l (L.kap - st)∧(st<L.kap→a=⟨L.block,o - L.minus,none⟩)
 | .nilm,v=>v=.map none
 | .mp i,v=>∃ L,R i 0=some L∧v=.map (some L.block)
 | .nilf,v=>v=.nilFunc
 | .fn f fs cs,v=>(∀ l,f≠.yield l)∧∃ a b:List Value,v=.func f a.toArray b.toArray∧VRels R fs a∧VRels R cs b
 | .yld i,v=>∃ L,R i 0=some L∧v=.func (.yield L.block) #[] #[]
 | .nili,v=>v=.nilIface
 | .ifc t x,v=>∃ y,v=.iface t y∧VRel R x y
 | .agg l,v=>∃ a:List Value,v=.agg a.toArray∧VRels R l a
 | .tup l,v=>∃ a:List Value,v=.tuple a.toArray∧VRels R l a
 | .sle,v=>∃ a,v=.slice (some a) 0 0
 | .unk,v=>v.cells=#[v]∧v.oneCell'=true
def VRels (R:Bij):List AV→List Value→Prop
 | [],l=>l=[]
 | x::xs,l=>∃ y ys,l=y::ys∧VRel R x y∧VRels R xs ys
end
mutual
theorem VRel.mono {R R':Bij}(h:R.le R'):∀ (x:AV) (v:Value),VRel R x v→VRel R' x v
 | .bool _,_,e=>e
 | .int _ _,_,e=>e
 | .str _,_,e=>e
 | .nilp,_,e=>e
 | .ptr _ _ _,_,e=>let ⟨L,e1,e2⟩:=e; ⟨L,h _ _ _ e1,e2⟩
 | .gp _ _,_,e=>e
 | .nils _ _,_,e=>e
 | .slc _ _ _ _ _,_,e=>let ⟨L,e1,e2⟩:=e; ⟨L,h _ _ _ e1,e2⟩
 | .slg _ _ _ _ _,_,e=>let ⟨L,a,e1,e2⟩:=e; ⟨L,a,h _ _ _ e1,e2⟩
 | .nilm,_,e=>e
 | .mp _,_,e=>let ⟨L,e1,e2⟩:=e; ⟨L,h _ _ _ e1,e2⟩
 | .nilf,_,e=>e
 | .fn _ _ _,_,e=>let ⟨n,a,b,e1,e2,e3⟩:=e; ⟨n,a,b,e1,VRels.mono h _ _ e2,VRels.mono h _ _ e3⟩
 | .yld _,_,e=>let ⟨L,e1,e2⟩:=e; ⟨L,h _ _ _ e1,e2⟩
 | .nili,_,e=>e
 | .ifc _ _,_,e=>let ⟨y,e1,e2⟩:=e; ⟨y,e1,VRel.mono h _ _ e2⟩
 | .agg _,_,e=>let ⟨a,e1,e2⟩:=e; ⟨a,e1,VRels.mono h _ _ e2⟩
 | .tup _,_,e=>let ⟨a,e1,e2⟩:=e; ⟨a,e1,VRels.mono h _ _ e2⟩
 | .sle,_,e=>e
 | .unk,_,e=>e
theorem VRels.mono {R R':Bij}(h:R.le R'):∀ (x:List AV) (v:List Value),VRels R x v→VRels R' x v
 | [],_,e=>e
 | _::_,_,e=>let ⟨y,ys,e1,e2,e3⟩:=e; ⟨y,ys,e1,VRel.mono h _ _ e2,VRels.mono h _ _ e3⟩
end
theorem VRels.cons {R:Bij}{x:AV}{xs:List AV}{y:Value}{ys:List Value}(h:VRel R x y)(hs:VRels R xs ys):VRels R (x::xs) (y::ys):=⟨y,ys,rfl,h,hs⟩
theorem VRels.nil {R:Bij}:VRels R [] []:=rfl
theorem VRels.length {R:Bij}:∀ {xs:List AV} {ys:List Value},VRels R xs ys→ys.length=xs.length
 | [],_,h=>by cases h; rfl
 | _::_,_,h=>by obtain ⟨y,ys,rfl,_,h⟩:=h; simp [VRels.length h]
theorem VRels.get {R:Bij}:∀ {xs:List AV} {ys:List Value},VRels R xs ys→∀ (i:Nat) (x:AV),xs[i]?=some x→∃ y,ys[i]?=some y∧VRel R x y
 | [],_,h,i,x,e=>by simp at e
 | _::_,_,h,i,x,e=>by
  obtain ⟨y,ys,rfl,h1,h2⟩:=h;cases i with
  | zero=>simp at e; subst e; exact ⟨y,by simp,h1⟩
  | succ i=>simp at e; obtain ⟨z,hz,hr⟩:=VRels.get h2 i x e; exact ⟨z,by simpa using hz,hr⟩
theorem VRels.of_get {R:Bij}:∀ {xs:List AV} {ys:List Value},ys.length=xs.length→(∀ (i:Nat) (x:AV),xs[i]?=some x→∃ y,ys[i]?=some y∧VRel R x y)→VRels R xs ys
 | [],ys,h,_=>by cases ys <;> simp_all [VRels]
 | x::xs,ys,h,g=>by
  cases ys with
  | nil=>simp at h
  | cons y ys =>
   obtain ⟨z,hz,hr⟩:=g 0 x (by simp);simp at hz; subst hz;refine ⟨y,ys,rfl,hr,VRels.of_get (by simpa using h) fun i x' e=>?_⟩
   obtain ⟨z,hz,hr⟩:=g (i+1) x' (by simpa using e)
   exact ⟨z,by simpa using hz,hr⟩
theorem VRels.append {R:Bij}:∀ {xs:List AV} {ys:List Value} {xs':List AV} {ys':List Value},VRels R xs ys→VRels R xs' ys'→VRels R (xs++xs') (ys++ys')
 | [],_,_,_,h,h'=>by cases h; exact h'
 | _::_,_,_,_,h,h'=>by obtain ⟨y,ys,rfl,h1,h2⟩:=h; exact .cons h1 (VRels.append h2 h')
theorem VRels.take {R:Bij}{xs:List AV}{ys:List Value}(h:VRels R xs ys)(n:Nat):VRels R (xs.take n) (ys.take n):=by
 refine .of_get (by simp [h.length]) fun i x e=>?_;rw [List.getElem?_take] at e ⊢;split at e
 ·rename_i hi; rw [if_pos hi]; exact h.get i x e
 ·cases e
theorem VRels.drop {R:Bij}{xs:List AV}{ys:List Value}(h:VRels R xs ys)(n:Nat):VRels R (xs.drop n) (ys.drop n):=by
 refine .of_get (by simp [h.length]) fun i x e=>?_;rw [List.getElem?_drop] at e ⊢;exact h.get _ x e
theorem zef {α β:Type}(f:α→Option β):qD f []=some []:=rfl
theorem zeb {α β:Type}(f:α→Option β):∀ (l:List α) (acc:List β),zmP f l acc=(qD f l).map fun r=>acc.reverse++r
 | [],acc=>by simp [zmP,qD]
 | a::l,acc=>by
  unfold qD;simp only [zmP];cases f a with
  | none=>rfl
  | some b =>
   simp only [];rw [zeb f l (b::acc),zeb f l [b]];cases qD f l <;> simp
theorem kQ {α β:Type}(f:α→Option β)(a:α)(l:List α):qD f (a::l)=match f a with
 | none=>none
 | some b=>match qD f l with
  | none=>none
  | some bs=>some (b::bs):=by
 show zmP f (a::l) []=_;simp only [zmP];cases f a with
 | none=>rfl
 | some b =>
  simp only [];rw [zeb];cases qD f l <;> simp
theorem zbf {α β:Type}{f:α→Option β}:∀ {l:List α} {r:List β},qD f l=some r→r.length=l.length∧∀ (i:Nat) (a:α),l[i]?=some a→∃ b,r[i]?=some b∧f a=some b
 | [],r,h=>by simp [zef] at h; subst h; simp
 | a::l,r,h=>by
  simp only [kQ] at h;cases ha:f a with
  | none=>simp [ha] at h
  | some b =>
   rw [ha] at h;cases hl:qD f l with
   | none=>simp [hl] at h
   | some bs =>
    rw [hl] at h;simp at h; subst h;obtain ⟨h1,h2⟩:=zbf hl;refine ⟨by simp [h1],fun i x e=>?_⟩;cases i with
    | zero=>simp at e; subst e; exact ⟨b,by simp,ha⟩
    | succ i=>simp at e; obtain ⟨c,hc,hf⟩:=h2 i x e; exact ⟨c,by simpa using hc,hf⟩
theorem VRels.of_mapO {R:Bij}{α:Type}{f:α→Option AV}{g:α→Value}{l:List α}{r:List AV}(h:qD f l=some r)
 (hf:∀ a x,f a=some x→VRel R x (g a)):VRels R r (l.map g):=by
 obtain ⟨h1,h2⟩:=zbf h;refine .of_get (by simp [h1]) fun i x e=>?_;have hi:i<l.length:=by
  rw [← h1]; rcases Nat.lt_or_ge i r.length with h | h
  ·exact h
  ·rw [List.getElem?_eq_none h] at e; cases e
 obtain ⟨b,hb,hfb⟩:=h2 i l[i] (List.getElem?_eq_getElem hi);rw [e] at hb; cases hb;exact ⟨g l[i],by simp [List.getElem?_eq_getElem hi],hf _ _ hfb⟩
theorem zaW (R:Bij):∀ (n:Nat) (v:Value) (x:AV),jG n v=some x→VRel R x v
 | 0,_,_,h=>by simp [jG] at h
 | n+1,v,x,h=>by
  have hl:∀ (cs:Array Value) (l:List AV),qD (jG n) cs.toList=some l→VRels R l cs.toList:=by
   intro cs l e;have:=VRels.of_mapO (g:=id) e (fun a x hx=>zaW R n a x hx);simpa using this
  cases v with
  | bool b=>simp [jG] at h; subst h; exact rfl
  | int k n=>simp [jG] at h; subst h; exact rfl
  | float k n=>simp [jG] at h
  | complex k a b=>simp [jG] at h
  | string s=>simp [jG] at h; subst h; exact rfl
  | pointer a=>cases a <;> simp [jG] at h; subst h; exact rfl
  | slice a l c=>cases a <;> simp [jG] at h; subst h; exact rfl
  | map r=>cases r <;> simp [jG] at h; subst h; exact rfl
  | chan r=>simp [jG] at h
  | func f fs cs =>
   simp only [jG] at h;split at h
   ·cases h
   ·rename_i hf;split at h
    ·rename_i a b ha hb;simp at h; subst h;exact ⟨fun l e=>hf l e,fs.toList,cs.toList,by simp,hl _ _ ha,hl _ _ hb⟩
    ·cases h
  | nilFunc=>simp [jG] at h; subst h; exact rfl
  | iface t v =>
   simp only [jG] at h;cases hv:jG n v with
   | none=>simp [hv] at h
   | some y=>simp [hv] at h; subst h; exact ⟨v,rfl,zaW R n v y hv⟩
  | nilIface=>simp [jG] at h; subst h; exact rfl
  | agg cs =>
   simp only [jG] at h;cases hv:qD (jG n) cs.toList with
   | none=>simp [hv] at h
   | some y=>simp [hv] at h; subst h; exact ⟨cs.toList,by simp,hl _ _ hv⟩
  | tuple cs =>
   simp only [jG] at h;cases hv:qD (jG n) cs.toList with
   | none=>simp [hv] at h
   | some y=>simp [hv] at h; subst h; exact ⟨cs.toList,by simp,hl _ _ hv⟩
theorem VRel.cells {R:Bij}{x:AV}{v:Value}(h:VRel R x v):VRels R x.cells v.cells.toList:=by
 cases x <;> simp only [AV.cells]
 case agg l=>obtain ⟨a,rfl,h⟩:=h; simpa [Value.cells] using h
 all_goals
  have hv:v.cells=#[v]:=by
   first
    | (cases v <;> first | rfl | (simp [VRel] at h; done))
    | exact h.1
  rw [hv];exact .cons h .nil
theorem VRel.one {R:Bij}{x:AV}{v:Value}(h:VRel R x v)(ho:x.one=true):v.oneCell'=true:=by
 cases x <;> simp [AV.one] at ho <;> first
  | (simp only [VRel] at h; subst h; rfl)
  | (obtain ⟨L,_,_,rfl⟩:=h; rfl)
  | (obtain ⟨L,_,rfl⟩:=h; rfl)
  | (obtain ⟨L,a,_,_,_,rfl,_⟩:=h; rfl)
  | (obtain ⟨_,a,b,rfl,_⟩:=h; rfl)
  | (obtain ⟨y,rfl,_⟩:=h; rfl)
  | (obtain ⟨y,rfl⟩:=h; rfl)
  | exact h.2
end Go.Proofs.Ytcdigdplhlgcaaa.Ev
end
section
namespace Go.Proofs.Ytcdigdplhlgcaaa.Ev
open Go
def VerRel (P:Program) (R:Bij) (w:World) (c:T AV) (el:TypeId) (fz:Nat) (sg:Bool) (e:Nat) (L:Loc):Prop :=
 ∃ (cs:Array Value) (a b:Nat),w.heap[L.block]?=some (.cells cs el (a,b))∧e≤cs.size+L.minus ∧
  (L.kap*P.cellsOf el=cs.size+L.minus∧P.cellsOf el ∣ L.minus) ∧
  ((a≤b∧(sg=false→L.kap≤L.minus+9223372036854775807))∧∀ j,a≤j→j<b→j+L.minus<fz∨(sg=true∧j=cs.size)) ∧
  (∀ k v,k<e→L.minus≤k→c.get k=some v→∃ x,cs[k - L.minus]?=some x∧VRel R v x)
def zrc (R:Bij) (a:AEntry) (e:MapEntry):Prop:=VRel R a.key e.key∧VRel R a.val e.val∧a.born=e.born
def All2 {α β:Type} (r:α→β→Prop):List α→List β→Prop
 | [],l=>l=[]
 | a::aS,l=>∃ b bs,l=b::bs∧r a b∧All2 r aS bs
theorem All2.mono {α β:Type}{r r':α→β→Prop}(h:∀ a b,r a b→r' a b):∀ {aS:List α} {bs:List β},All2 r aS bs→All2 r' aS bs
 | [],_,e=>e
 | _::_,_,e=>let ⟨b,bs,e1,e2,e3⟩:=e; ⟨b,bs,e1,h _ _ e2,All2.mono h e3⟩
theorem All2.length {α β:Type}{r:α→β→Prop}:∀ {aS:List α} {bs:List β},All2 r aS bs→bs.length=aS.length
 | [],_,e=>by cases e; rfl
 | _::_,_,e=>by obtain ⟨b,bs,rfl,_,e⟩:=e; simp [All2.length e]
theorem All2.append {α β:Type}{r:α→β→Prop}:∀ {aS:List α} {bs:List β} {as':List α} {bs':List β},All2 r aS bs→All2 r as' bs'→All2 r (aS++as') (bs++bs')
 | [],_,_,_,e,e'=>by cases e; exact e'
 | _::_,_,_,_,e,e'=>by obtain ⟨b,bs,rfl,h,e⟩:=e; exact ⟨b,_,rfl,h,All2.append e e'⟩
theorem All2.get {α β:Type}{r:α→β→Prop}:∀ {aS:List α} {bs:List β},All2 r aS bs→∀ (i:Nat) (a:α),aS[i]?=some a→∃ b,bs[i]?=some b∧r a b
 | [],_,_,i,x,e=>by simp at e
 | _::_,_,h,i,x,e=>by
  obtain ⟨y,ys,rfl,h1,h2⟩:=h;cases i with
  | zero=>simp at e; subst e; exact ⟨y,by simp,h1⟩
  | succ i=>simp at e; obtain ⟨z,hz,hr⟩:=All2.get h2 i x e; exact ⟨z,by simpa using hz,hr⟩
theorem All2.of_get {α β:Type}{r:α→β→Prop}:∀ {xs:List α} {ys:List β},ys.length=xs.length→(∀ (i:Nat) (x:α),xs[i]?=some x→∃ y,ys[i]?=some y∧r x y)→All2 r xs ys
 | [],ys,h,_=>by cases ys <;> simp_all [All2]
 | x::xs,ys,h,g=>by
  cases ys with
  | nil=>simp at h
  | cons y ys =>
   obtain ⟨z,hz,hr⟩:=g 0 x (by simp);simp at hz; subst hz;refine ⟨y,ys,rfl,hr,All2.of_get (by simpa using h) fun i x' e=>?_⟩
   obtain ⟨z,hz,hr⟩:=g (i+1) x' (by simpa using e)
   exact ⟨z,by simpa using hz,hr⟩
theorem All2.take {α β:Type}{r:α→β→Prop}{xs:List α}{ys:List β}(h:All2 r xs ys)(n:Nat):All2 r (xs.take n) (ys.take n):=by
 refine .of_get (by simp [h.length]) fun i x e=>?_;rw [List.getElem?_take] at e ⊢;split at e
 ·rename_i hi; rw [if_pos hi]; exact h.get i x e
 ·cases e
theorem All2.drop {α β:Type}{r:α→β→Prop}{xs:List α}{ys:List β}(h:All2 r xs ys)(n:Nat):All2 r (xs.drop n) (ys.drop n):=by
 refine .of_get (by simp [h.length]) fun i x e=>?_;rw [List.getElem?_drop] at e ⊢;exact h.get _ x e
def TgtRel (R:Bij):ATgt→Target→Prop
 | .fn f cap,t=>(∀ l,f≠.yield l)∧∃ c:List Value,t=.fn f c.toArray∧VRels R cap c
 | .nil,t=>t=.nil
 | .collected i,t=>∃ L,R i 0=some L∧t=.collected L.block
def DefRel (R:Bij) (a:ADef) (d:Deferred):Prop:=TgtRel R a.tgt d.target∧VRels R a.args d.args.toList
def TRel (R:Bij) (t:T AV) (n:Nat) (a:Array Value):Prop :=
 a.size=n∧∀ i v,t.get i=some v→∃ x,a[i]?=some x∧VRel R v x
structure LoopRel (R:Bij) (a:ALoop) (l:Loop):Prop where
 state:l.state=a.state
 pending:l.pending=a.pending
 fn:l.fn=a.fn
 tmps:TRel R a.tmps a.n l.tmps
 params:l.params=a.params
 assign:l.assign=a.assign
 body:l.body=a.body
 defers:∃ L,R a.defers 0=some L∧l.defers=L.block
def ODefs (R:Bij):Option (List ADef)→Option (List Deferred)→Prop
 | none,o=>o=none
 | some ds,o=>∃ l,o=some l∧All2 (DefRel R) ds l
def ObjRel (P:Program) (R:Bij) (w:World) (i:Nat):AObj→Prop
 | .cells c n el lo hi nv fz sg ex=>lo≤hi∧hi<nv∧(∀ r,nv≤r→R i r=none) ∧
  (∀ r e,lo≤r→r≤hi→zG ex n hi r=some e→∃ L,R i r=some L∧VerRel P R w c el fz sg e L) ∧
  ∀ r e,lo≤r→r≤hi→zG ex n hi r=some e→e≤n
 | .map es clock=>∃ L es',R i 0=some L∧w.heap[L.block]?=some (.map es' clock)∧All2 (zrc R) es es'.toList
 | .iter s pos=>∃ L,R i 0=some L∧w.heap[L.block]?=some (.stringIter ⟨s.toArray⟩ pos)
 | .loop lp=>∃ L lp',R i 0=some L∧w.heap[L.block]?=some (.loop lp')∧LoopRel R lp lp'
 | .dfrd ds=>∃ L ds',R i 0=some L∧w.heap[L.block]?=some (.deferred ds')∧ODefs R ds ds'
 | .ro c lo n=>∃ L cs el fz,R i 0=some L∧L.minus=0∧w.heap[L.block]?=some (.cells cs el fz)∧n≤cs.size ∧
  ∀ k v,lo≤k→k<n→c.get k=some v→∃ x,cs[k]?=some x∧VRel (fun _ _=>none) v x
def AObj.isRo:AObj→Bool
 | .ro ..=>true
 | _=>false
structure Env extends World where
 own:Nat→Prop
 rob:Nat→Prop
 pin:Bij
structure Base where
 env:Env
 ro:Nat→Prop
 pend:Nat→Option AObj
 tag:Nat→Nat × Nat
abbrev Base.n (B:Base):Nat:=B.env.heap.size
def Base.may (B:Base) (b:Nat):Prop:=B.n≤b∨B.env.own b
structure HRel (P:Program) (B:Base) (R:Bij) (h:AHeap) (w:World):Prop where
 fresh:∀ i,h.next≤i→∀ r,R i r=none
 obj:∀ i o,h.get i=some o→B.pend i=none→ObjRel P R w i o
 pend:∀ i o,B.pend i=some o→i<h.next∧h.get i=some o∧∀ r,R i r=none
 place:∀ i r L,R i r=some L→(B.may L.block∨B.ro i)∧L.block<w.heap.size
 rd:∀ i,B.ro i→i<h.next∧∀ o,h.get i=some o→o.isRo=true
 rp:∀ i,B.ro i→B.pend i=none
 rol:∀ i r L,B.ro i→R i r=some L→B.env.rob L.block
 low:∀ b,¬ B.may b→w.heap[b]?=B.env.heap[b]?
 pin:∀ i r L,B.env.pin i r=some L→R i r=some L
 apart:∀ i r i' r' L L',R i r=some L→R i' r'=some L'→L.block=L'.block→(¬ B.ro i∨¬ B.ro i')→i=i'
 same:∀ i r r' L L',R i r=some L→R i r'=some L'→L.block=L'.block→L.minus=L'.minus
 glob:∀ g c,h.glob.get g=some c→¬ B.may g∧∃ cs el fz,w.heap[g]?=some (.cells cs el fz)∧∀ k v,c.get k=some v→∃ x,cs[k]?=some x∧VRel (fun _ _=>none) v x
structure Keeps (R:Bij) (w:World) (R':Bij) (w':World):Prop where
 os:w'.os=w.os
 tape:w'.tape=w.tape
 output:w'.output=w.output
 size:w.heap.size≤w'.heap.size
 le:R.le R'
 other:∀ b,b<w.heap.size→(∀ i r L,R i r=some L→L.block≠b)→w'.heap[b]?=w.heap[b]?∧(∀ i r L,R' i r=some L→L.block≠b)
 drawn:w.drawn≤w'.drawn
theorem Keeps.refl (R:Bij)(w:World):Keeps R w R w:=⟨rfl,rfl,rfl,Nat.le_refl _,R.le_refl,fun _ _ h=>⟨rfl,h⟩,Nat.le_refl _⟩
theorem Keeps.trans {R R' R'':Bij}{w w' w'':World}(h:Keeps R w R' w')(k:Keeps R' w' R'' w''):Keeps R w R'' w'' :=
 ⟨k.os.trans h.os,k.tape.trans h.tape,k.output.trans h.output,Nat.le_trans h.size k.size,Bij.le_trans h.le k.le,fun b hb hn=>by
  obtain ⟨e1,n1⟩:=h.other b hb hn;obtain ⟨e2,n2⟩:=k.other b (Nat.lt_of_lt_of_le hb h.size) n1;exact ⟨e2.trans e1,n2⟩,Nat.le_trans h.drawn k.drawn⟩
theorem TRel.mono {R R':Bij}(h:R.le R'){t:T AV}{n:Nat}{a:Array Value}(k:TRel R t n a):TRel R' t n a :=
 ⟨k.1,fun i v e=>let ⟨x,e1,e2⟩:=k.2 i v e; ⟨x,e1,VRel.mono h _ _ e2⟩⟩
theorem TgtRel.mono {R R':Bij}(h:R.le R'){a:ATgt}{d:Target}(k:TgtRel R a d):TgtRel R' a d:=by
 cases a with
 | fn f c=>obtain ⟨n,l,e,r⟩:=k; exact ⟨n,l,e,VRels.mono h _ _ r⟩
 | nil=>exact k
 | collected i=>obtain ⟨L,e,r⟩:=k; exact ⟨L,h _ _ _ e,r⟩
theorem DefRel.mono {R R':Bij}(h:R.le R'){a:ADef}{d:Deferred}(k:DefRel R a d):DefRel R' a d:=⟨k.1.mono h,VRels.mono h _ _ k.2⟩
theorem LoopRel.mono {R R':Bij}(h:R.le R'){a:ALoop}{l:Loop}(k:LoopRel R a l):LoopRel R' a l :=
 ⟨k.state,k.pending,k.fn,k.tmps.mono h,k.params,k.assign,k.body,let ⟨L,e,r⟩:=k.defers; ⟨L,h _ _ _ e,r⟩⟩
theorem VerRel.mono {P:Program}{R R':Bij}{w w':World}(h:R.le R'){c:T AV}{el:TypeId}{fz:Nat}{sg:Bool}{e:Nat}{L:Loc}
 (hw:w'.heap[L.block]?=w.heap[L.block]?) (k:VerRel P R w c el fz sg e L):VerRel P R' w' c el fz sg e L:=by
 obtain ⟨cs,a,b,h1,h2,h3,h4,h5⟩:=k;exact ⟨cs,a,b,hw.trans h1,h2,h3,h4,fun k v a1 a2 a3=>let ⟨x,e1,e2⟩:=h5 k v a1 a2 a3; ⟨x,e1,VRel.mono h _ _ e2⟩⟩
theorem ODefs.mono {R R':Bij}(h:R.le R'){a:Option (List ADef)}{d:Option (List Deferred)}(k:ODefs R a d):ODefs R' a d:=by
 cases a with
 | none=>exact k
 | some ds=>obtain ⟨l,e,r⟩:=k; exact ⟨l,e,r.mono fun _ _=>DefRel.mono h⟩
theorem ObjRel.mono {P:Program}{R R':Bij}{w w':World}(h:R.le R'){i:Nat}{o:AObj}
 (hi:∀ r,R' i r=R i r) (hw:∀ r L,R i r=some L→w'.heap[L.block]?=w.heap[L.block]?) (k:ObjRel P R w i o):ObjRel P R' w' i o:=by
 cases o with
 | cells c n el lo hi' nv fz sg ex =>
  obtain ⟨a1,a2,a3,a4,a5⟩:=k;refine ⟨a1,a2,fun r hr=>by rw [hi]; exact a3 r hr,fun r e b1 b2 b3=>?_,a5⟩;obtain ⟨L,e1,e2⟩:=a4 r e b1 b2 b3;exact ⟨L,by rw [hi]; exact e1,e2.mono h (hw _ _ e1)⟩
 | map es clock =>
  obtain ⟨L,es',e1,e2,e3⟩:=k;exact ⟨L,es',h _ _ _ e1,(hw _ _ e1).trans e2,e3.mono fun _ _ r=>⟨VRel.mono h _ _ r.1,VRel.mono h _ _ r.2.1,r.2.2⟩⟩
 | iter s pos =>
  obtain ⟨L,e1,e2⟩:=k;exact ⟨L,h _ _ _ e1,(hw _ _ e1).trans e2⟩
 | loop lp =>
  obtain ⟨L,lp',e1,e2,e3⟩:=k;exact ⟨L,lp',h _ _ _ e1,(hw _ _ e1).trans e2,e3.mono h⟩
 | dfrd ds =>
  obtain ⟨L,ds',e1,e2,e3⟩:=k;exact ⟨L,ds',h _ _ _ e1,(hw _ _ e1).trans e2,e3.mono h⟩
 | ro c lo n =>
  obtain ⟨L,cs,el,fz,e1,e2,e3,e4,e5⟩:=k;exact ⟨L,cs,el,fz,h _ _ _ e1,e2,(hw _ _ e1).trans e3,e4,e5⟩
theorem HRel.live {P:Program}{B:Base}{R:Bij}{h:AHeap}{w:World}(k:HRel P B R h w){i r:Nat}{L:Loc}(e:R i r=some L):B.pend i=none:=by
 cases hp:B.pend i with
 | none=>rfl
 | some o=>rw [(k.pend i o hp).2.2 r] at e; cases e
theorem HRel.obj' {P:Program}{B:Base}{R:Bij}{h:AHeap}{w:World}(k:HRel P B R h w){i r:Nat}{L:Loc}(e:R i r=some L){o:AObj}(ho:h.get i=some o):ObjRel P R w i o:=k.obj i o ho (k.live e)
theorem HRel.notRo {P:Program}{B:Base}{R:Bij}{h:AHeap}{w:World}(k:HRel P B R h w){i:Nat}{o:AObj}(ho:h.get i=some o)(hr:o.isRo=false):¬ B.ro i:=fun e=>by
 rw [(k.rd i e).2 o ho] at hr; cases hr
theorem HRel.newRo {P:Program}{B:Base}{R:Bij}{h:AHeap}{w:World}(k:HRel P B R h w){i:Nat}(hi:h.next≤i):¬ B.ro i:=fun e=>absurd (k.rd i e).1 (Nat.not_lt.2 hi)
theorem HRel.off {P:Program}{B:Base}{R:Bij}{h:AHeap}{w:World}(k:HRel P B R h w){i r:Nat}{L:Loc}(hL:R i r=some L)(hn:¬ B.ro i){b:Nat}(hb:¬ B.may b):b≠L.block:=fun e=>by
 rcases (k.place i r L hL).1 with h1 | h1
 ·rw [e] at hb; exact hb h1
 ·exact hn h1
theorem Base.low_lt {B:Base}{b:Nat}(h:¬ B.may b):b<B.n:=Nat.not_le.1 fun e=>h (.inl e)
theorem HRel.touch {P:Program}{B:Base}{R R':Bij}{h h':AHeap}{w w':World}(k:HRel P B R h w)(i:Nat)(o:AObj)(hp:B.pend i=none)
 (hle:R.le R') (hn:h.next≤h'.next) (hi:i<h'.next) (hget:∀ j,h'.get j=if j=i then some o else h.get j)
 (hR:∀ j r,j≠i→R' j r=R j r) (hw:∀ j r L,j≠i→R j r=some L→w'.heap[L.block]?=w.heap[L.block]?)
 (ho:ObjRel P R' w' i o) (hs:w.heap.size≤w'.heap.size)
 (hnew:∀ r L,R' i r=some L→(B.may L.block∨B.ro i)∧L.block<w'.heap.size∧∀ j r' L',j≠i→R j r'=some L'→L'.block≠L.block)
 (hsame:∀ r r' L L',R' i r=some L→R' i r'=some L'→L.block=L'.block→L.minus=L'.minus)
 (hglob:h'.glob=h.glob) (hlow:∀ b,¬ B.may b→w'.heap[b]?=w.heap[b]?) (hro:¬ B.ro i):HRel P B R' h' w' where
 low b hb:=(hlow b hb).trans (k.low b hb)
 rp:=k.rp
 rol j r L hj e:=by
  rw [hR j r (fun h=>hro (h▸hj))] at e;exact k.rol j r L hj e
 pin j r L e:=hle _ _ _ (k.pin j r L e)
 rd j hj:=by
  have hji:j≠i:=fun e=>hro (e▸hj);refine ⟨Nat.lt_of_lt_of_le (k.rd j hj).1 hn,fun o' e=>?_⟩;rw [hget,if_neg hji] at e;exact (k.rd j hj).2 o' e
 glob g c e:=by
  rw [hglob] at e;obtain ⟨e1,cs,el,fz,e2,e3⟩:=k.glob g c e;exact ⟨e1,cs,el,fz,(hlow g e1).trans e2,e3⟩
 same j r r' L L' e e' hb:=by
  by_cases hj:j=i
  ·subst hj; exact hsame r r' L L' e e' hb
  ·rw [hR j r hj] at e; rw [hR j r' hj] at e'; exact k.same j r r' L L' e e' hb
 fresh j hj r:=by
  have:j≠i:=by omega
  rw [hR j r this]; exact k.fresh j (Nat.le_trans hn hj) r
 pend j o' e:=by
  have hj:j≠i:=fun hh=>by rw [hh,hp] at e; cases e
  obtain ⟨e1,e2,e3⟩:=k.pend j o' e;exact ⟨Nat.lt_of_lt_of_le e1 hn,by rw [hget,if_neg hj]; exact e2,fun r=>by rw [hR j r hj]; exact e3 r⟩
 obj j o' e hpj:=by
  rw [hget] at e
  by_cases hj:j=i
  ·subst hj; rw [if_pos rfl] at e; cases e; exact ho
  ·rw [if_neg hj] at e;exact (k.obj j o' e hpj).mono hle (fun r=>hR j r hj) (fun r L e=>hw j r L hj e)
 place j r L e:=by
  by_cases hj:j=i
  ·subst hj; exact ⟨(hnew r L e).1,(hnew r L e).2.1⟩
  ·rw [hR j r hj] at e;exact ⟨(k.place j r L e).1,Nat.lt_of_lt_of_le (k.place j r L e).2 hs⟩
 apart j r j' r' L L' e e' hb hor:=by
  by_cases hj:j=i
  ·subst hj
   by_cases hj':j'=j
   ·exact hj'.symm
   ·rw [hR j' r' hj'] at e';exact absurd hb.symm ((hnew r L e).2.2 j' r' L' hj' e')
  ·rw [hR j r hj] at e
   by_cases hj':j'=i
   ·subst hj'; exact absurd hb ((hnew r' L' e').2.2 j r L hj e)
   ·rw [hR j' r' hj'] at e'; exact k.apart j r j' r' L L' e e' hb hor
def Bij.upd (R:Bij) (i r:Nat) (L:Loc):Bij:=fun j s=>if j=i∧s=r then some L else R j s
theorem Bij.upd_same (R:Bij)(i r:Nat)(L:Loc):R.upd i r L i r=some L:=by simp [Bij.upd]
theorem Bij.upd_other (R:Bij){i r j s:Nat}(L:Loc)(h:¬ (j=i∧s=r)):R.upd i r L j s=R j s:=by simp [Bij.upd,h]
theorem Bij.le_upd (R:Bij){i r:Nat}(L:Loc)(h:R i r=none):R.le (R.upd i r L):=by
 intro j s M e
 by_cases hc:j=i∧s=r
 ·rw [hc.1,hc.2,h] at e; cases e
 ·rw [R.upd_other L hc]; exact e
theorem yA (w:World)(o:Obj){b:Nat}(h:b<w.heap.size):(w.alloc o).heap[b]?=w.heap[b]?:=by
 show (w.heap.push o)[b]?=_;rw [Array.getElem?_push,if_neg (by omega)]
theorem xp (w:World)(o:Obj):(w.alloc o).heap[w.heap.size]?=some o:=by
 show (w.heap.push o)[w.heap.size]?=_;rw [Array.getElem?_push,if_pos rfl]
theorem HRel.new {P:Program}{B:Base}{R:Bij}{h:AHeap}{w w':World}(k:HRel P B R h w)(hB:B.n≤w.heap.size)(o:AObj)(ob:Obj)(L:Loc)(hL:L.block=w.heap.size)
 (hh:w'.heap=w.heap.push ob) (hos:w'.os=w.os) (ht:w'.tape=w.tape) (hout:w'.output=w.output)
 (ho:ObjRel P (R.upd h.next 0 L) w' h.next o) (hdr:w.drawn≤w'.drawn:=by first | exact Nat.le_refl _ | exact Nat.le_succ _ | assumption):HRel P B (R.upd h.next 0 L) (h.new o) w'∧Keeps R w (R.upd h.next 0 L) w':=by
 have hfree:=k.fresh h.next (Nat.le_refl _);have hle:=R.le_upd (i:=h.next) (r:=0) L (hfree 0);have hsz:w'.heap.size=w.heap.size+1:=by rw [hh]; simp
 have hold:∀ b,b<w.heap.size→w'.heap[b]?=w.heap[b]?:=fun b hb=>by rw [hh,Array.getElem?_push,if_neg (by omega)]
 have hpn:B.pend h.next=none:=by
  cases hp:B.pend h.next with
  | none=>rfl
  | some o=>exact absurd (k.pend _ _ hp).1 (Nat.lt_irrefl _)
 refine ⟨k.touch h.next o hpn hle (by rw [vm]; omega) (by rw [vm]; omega) (fun j=>zbO h j o)
  (fun j r hj=>R.upd_other L (by intro e; exact hj e.1)) (fun j r M _ e=>hold _ (k.place j r M e).2) ho (by omega) ?_ ?_ (zid h o) (fun b hb=>hold b (Nat.lt_of_lt_of_le (Base.low_lt hb) hB)) (k.newRo (Nat.le_refl _)),?_⟩
 ·intro r M e
  by_cases hr:r=0
  ·subst hr; rw [R.upd_same] at e; cases e;exact ⟨.inl (.inl (by rw [hL]; exact hB)),by omega,fun j r' M' _ e' he=>by have:=(k.place j r' M' e').2; omega⟩
  ·rw [R.upd_other L (by intro e; exact hr e.2),hfree] at e; cases e
 ·intro r r' M M' e e' _;have:∀ {r M},R.upd h.next 0 L h.next r=some M→M=L:=by
   intro r M e
   by_cases hr:r=0
   ·subst hr; rw [R.upd_same] at e; cases e; rfl
   ·rw [R.upd_other L (by intro e; exact hr e.2),hfree] at e; cases e
  rw [this e,this e']
 ·refine ⟨hos,ht,hout,by omega,hle,fun b hb hn=>⟨hold b hb,fun j r M e=>?_⟩,hdr⟩
  by_cases hc:j=h.next∧r=0
  ·rw [hc.1,hc.2,R.upd_same] at e; cases e; omega
  ·rw [R.upd_other L hc] at e; exact hn j r M e
def xP (w:World) (b:Nat) (cs:Array Value) (el:TypeId) (fz:Nat × Nat):World:={ w with heap:=w.heap.setIfInBounds b (.cells cs el fz) }
theorem qG (w:World)(b:Nat)(cs:Array Value)(el:TypeId)(fz:Nat × Nat)(h:b<w.heap.size):(xP w b cs el fz).heap[b]?=some (.cells cs el fz):=by
 simp [xP,h]
theorem zF (w:World){b b':Nat}(cs:Array Value)(el:TypeId)(fz:Nat × Nat)(h:b'≠b):(xP w b cs el fz).heap[b']?=w.heap[b']?:=by
 simp only [xP];rw [Array.getElem?_setIfInBounds,if_neg (fun e=>h e.symm)]
theorem xk (w:World)(b:Nat)(cs:Array Value)(el:TypeId)(fz:Nat × Nat):(xP w b cs el fz).heap.size=w.heap.size:=by simp [xP]
theorem zcl (w:World)(b k:Nat)(v:Value){cs:Array Value}{el:TypeId}{fz:Nat × Nat}(h:w.heap[b]?=some (.cells cs el fz)) :
 w.setCell ⟨b,k,none⟩ v=xP w b (cs.setIfInBounds k v) el fz:=by
 have hb:b<w.heap.size:=by
  rcases Nat.lt_or_ge b w.heap.size with h' | h'
  ·exact h'
  ·rw [Array.getElem?_eq_none h'] at h; cases h
 simp only [World.setCell,xP];congr 1;apply Array.ext_getElem?;intro i;rw [Array.getElem?_modify,Array.getElem?_setIfInBounds]
 by_cases hi:b=i
 ·subst hi;rw [if_pos rfl,if_pos rfl,if_pos hb,h];obtain ⟨a,c⟩:=fz;simp
 ·rw [if_neg hi,if_neg hi]
theorem zdZ (w:World)(b:Nat)(cs cs':Array Value)(el el':TypeId)(fz fz':Nat × Nat):xP (xP w b cs el fz) b cs' el' fz'=xP w b cs' el' fz':=by
 simp [xP,Array.setIfInBounds_setIfInBounds]
theorem cell?_row (w:World)(b k:Nat){cs:Array Value}{el:TypeId}{fz:Nat × Nat}(h:w.heap[b]?=some (.cells cs el fz)):w.cell? ⟨b,k,none⟩=cs[k]?:=by
 simp [World.cell?,h]
theorem frozen?_row (w:World)(b k:Nat){cs:Array Value}{el:TypeId}{a c:Nat}(h:w.heap[b]?=some (.cells cs el (a,c))):w.frozen? ⟨b,k,none⟩=(decide (a≤k)&&decide (k<c)):=by
 simp [World.frozen?,h]
theorem add_plain (b o n:Nat):(⟨b,o,none⟩:Addr).add n=⟨b,o+n,none⟩:=by
 by_cases h:n=0
 ·subst h; simp [Addr.add]
 ·simp [Addr.add,h]
def zfz (cs:Array Value) (off:Nat):List Value→Array Value
 | []=>cs
 | v::r=>zfz (cs.setIfInBounds off v) (off+1) r
theorem xD:∀ (vs:List Value) (cs:Array Value) (off:Nat),(zfz cs off vs).size=cs.size
 | [],_,_=>rfl
 | v::r,cs,off=>by simp [zfz,xD r]
theorem zaX:∀ (vs:List Value) (cs:Array Value) (off k:Nat),off+vs.length≤cs.size →
 (zfz cs off vs)[k]?=if off≤k∧k<off+vs.length then vs[k - off]? else cs[k]?
 | [],cs,off,k,_=>by simp [zfz]; omega
 | v::r,cs,off,k,h=>by
  simp only [List.length_cons] at h;rw [zfz,zaX r _ _ _ (by simp; omega)]
  by_cases h1:off+1≤k∧k<off+1+r.length
  ·rw [if_pos h1,if_pos (by simp; omega)];rw [show k - off=(k - (off+1))+1 from by omega]; simp
  ·rw [if_neg h1,Array.getElem?_setIfInBounds]
   by_cases h2:off=k
   ·subst h2;rw [if_pos rfl,if_pos (by omega),if_pos (by simp)]; simp
   ·rw [if_neg h2,if_neg (by simp; omega)]
theorem zk:∀ (vs:List AV) (c:T AV) (off k:Nat),
 (zd c off vs).get k=if off≤k∧k<off+vs.length then vs[k - off]? else c.get k
 | [],c,off,k=>by simp [zd]; omega
 | v::r,c,off,k=>by
  rw [zd,T.seq_eq,zk r]
  by_cases h1:off+1≤k∧k<off+1+r.length
  ·rw [if_pos h1,if_pos (by simp; omega)];rw [show k - off=(k - (off+1))+1 from by omega]; simp
  ·rw [if_neg h1,T.get_set]
   by_cases h2:k=off
   ·subst h2;rw [if_pos rfl,if_pos (by simp)]; simp
   ·rw [if_neg h2,if_neg (by simp; omega)]
theorem wv (P:Program)(b o:Nat)(el:TypeId)(f0 f1:Nat):∀ (vs:List Value) (i:Nat) (w:World) (cs:Array Value),
 w.heap[b]?=some (.cells cs el (f0,f1))→(∀ v∈vs,v.oneCell'=true)→o+i+vs.length≤cs.size →
 (∀ k,o+i≤k→k<o+i+vs.length→¬ (f0≤k∧k<f1)) →
 (storeCells ⟨b,o,none⟩ vs i).run P w=.ok () (xP w b (zfz cs (o+i) vs) el (f0,f1))
 | [],i,w,cs,h,_,_,_=>by
  simp only [storeCells,Sem.run_pure,zfz];congr 1;have hb:b<w.heap.size:=by
   rcases Nat.lt_or_ge b w.heap.size with h' | h'
   ·exact h'
   ·rw [Array.getElem?_eq_none h'] at h; cases h
  simp only [xP];have:w.heap.setIfInBounds b (.cells cs el (f0,f1))=w.heap:=by
   apply Array.ext_getElem?;intro j;rw [Array.getElem?_setIfInBounds]
   by_cases hj:b=j
   ·subst hj; rw [if_pos rfl,if_pos hb,h]
   ·rw [if_neg hj]
  rw [this]
 | v::r,i,w,cs,h,ho,hs,hf=>by
  simp only [List.length_cons] at hs hf;have hb:b<w.heap.size:=by
   rcases Nat.lt_or_ge b w.heap.size with h' | h'
   ·exact h'
   ·rw [Array.getElem?_eq_none h'] at h; cases h
  have hc:w.cell? ((⟨b,o,none⟩:Addr).add i)=some cs[o+i]:=by
   rw [add_plain,cell?_row w b _ h]; exact Array.getElem?_eq_getElem (by omega)
  have hz:w.frozen? ((⟨b,o,none⟩:Addr).add i)=false:=by
   rw [add_plain,frozen?_row w b _ h];have:=hf (o+i) (by omega) (by omega);simp only [Bool.and_eq_false_iff,decide_eq_false_iff_not];omega
  simp only [storeCells,Sem.run_bind];rw [run_store P w _ v _ (ho v (by simp)),hc];simp only [hz,Result.andThen_ok,Bool.false_eq_true,if_false];rw [add_plain,zcl w b (o+i) v h];have h':=qG w b (cs.setIfInBounds (o+i) v) el (f0,f1) hb;rw [wv P b o el f0 f1 r (i+1) _ _ h' (fun x hx=>ho x (by simp [hx])) (by simp; omega) (fun k a1 a2=>hf k (by omega) (by omega)),zdZ];rfl
theorem yZ (P:Program)(b o:Nat)(el:TypeId)(fz:Nat × Nat)(w:World)(cs:Array Value)(h:w.heap[b]?=some (.cells cs el fz)) :
 ∀ (n i:Nat) (acc:Array Value),o+i+n≤cs.size→(loadCellsFrom ⟨b,o,none⟩ i n acc).run P w=.ok (acc++cs.extract (o+i) (o+i+n)) w
 | 0,i,acc,_=>by simp [loadCellsFrom]; exact Nat.min_le_left _ _
 | n+1,i,acc,hs=>by
  have hc:w.cell? ((⟨b,o,none⟩:Addr).add i)=some cs[o+i]:=by
   rw [add_plain,cell?_row w b _ h]; exact Array.getElem?_eq_getElem (by omega)
  simp only [loadCellsFrom,Sem.run_bind,run_load,hc,Result.andThen_ok];rw [yZ P b o el fz w cs h n (i+1) _ (by omega)];congr 1;apply Array.ext_getElem?;intro j;simp only [Array.getElem?_append,Array.size_push,Array.getElem?_push,Array.getElem?_extract]
  by_cases h1:j<acc.size
  ·rw [if_pos (by omega),if_neg (by omega),if_pos h1]
  ·rw [if_neg h1]
   by_cases h2:j=acc.size
   ·subst h2;rw [if_pos (by omega),if_pos rfl,if_pos (by omega)];simp
   ·rw [if_neg (by omega)]
    by_cases h3:j - (acc.size+1)<min (o+(i+1)+n) cs.size - (o+(i+1))
    ·rw [if_pos h3,if_pos (by omega)]; congr 1; omega
    ·rw [if_neg h3,if_neg (by omega)]
end Go.Proofs.Ytcdigdplhlgcaaa.Ev
end
section
namespace Go.Proofs.Ytcdigdplhlgcaaa.Ev
open Go
section
variable {P:Program} {B:Base} {R:Bij} {h:AHeap} {w:World}
theorem za {t:TypeId}{d:TypeDesc}(w:World)(e:P.underlying t=some d):(underlying t).run P w=.ok d w:=by
 simp [underlying,e]
theorem zA {t:TypeId}{i:TypeInfo}(w:World)(e:P.info? t=some i):(typeInfo t).run P w=.ok i w:=by
 simp [typeInfo,e]
theorem zj {t:TypeId}{i:TypeInfo}(w:World)(e:P.info? t=some i):(sizeOf t).run P w=.ok i.size w:=by
 simp [sizeOf,zA w e]
theorem zo {t:TypeId}{i:TypeInfo}{v:Value}(w:World)(e:P.info? t=some i)(z:i.zero=some v):(zeroValue t).run P w=.ok v w:=by
 simp [zeroValue,zA w e,z]
theorem zx {t:TypeId}{i:TypeInfo}(e:P.info? t=some i):P.cellsOf t=i.size:=by simp [Program.cellsOf,e]
theorem yD {t:TypeId}{b:Bool}(w:World)(e:zmY P t=some b):(isAgg t).run P w=.ok b w:=by
 unfold zmY at e;split at e
 ·cases e
 ·cases e; rename_i x hx; simp [isAgg,za w hx]
 ·cases e; rename_i x hx; simp [isAgg,za w hx]
 ·rename_i d h1 h2 hd;cases e;simp only [isAgg,Sem.run_bind,za w hd,Result.andThen_ok];exact rfl
theorem zI {t:TypeId}{z:AV}(R:Bij)(e:qj P t=some z):∃ i v,P.info? t=some i∧i.zero=some v∧VRel R z v:=by
 unfold qj at e;split at e
 ·cases e
 ·rename_i i hi;split at e
  ·cases e
  ·rename_i v hv;exact ⟨i,v,hi,hv,zaW R 9 v z e⟩
theorem HRel.ver (k:HRel P B R h w){i r:Nat}{c:T AV}{n:Nat}{el:TypeId}{lo hi nv fz:Nat}{sg:Bool}{ex:T Nat}{e r0:Nat}{L0:Loc}(h0:R i r0=some L0)
 (ho:h.get i=some (.cells c n el lo hi nv fz sg ex)) (h1:lo≤r) (h2:r≤hi) (he:zG ex n hi r=some e) :
 ∃ L,R i r=some L∧VerRel P R w c el fz sg e L:=(k.obj' h0 ho).2.2.2.1 r e h1 h2 he
theorem zeV {c:T AV}{off:Nat}:∀ {n:Nat} {acc l:List AV},zd6 c off n acc=some l→∃ l0:List AV,l=l0++acc∧l0.length=n∧∀ (j:Nat) (v:AV),l0[j]?=some v→c.get (off+j)=some v
 | 0,acc,l,e=>by simp [zd6] at e; subst e; exact ⟨[],rfl,rfl,fun j v h=>by simp at h⟩
 | n+1,acc,l,e=>by
  simp only [zd6] at e;cases hv:c.get (off+n) with
  | none=>simp [hv] at e
  | some v =>
   rw [hv] at e;obtain ⟨l0,e1,e2,e3⟩:=zeV e;refine ⟨l0++[v],by rw [e1]; simp,by simp [e2],fun j x ej=>?_⟩;rw [List.getElem?_append] at ej;split at ej
   ·exact e3 j x ej
   ·rename_i hj;have:j=n:=by
     rcases Nat.lt_trichotomy j n with h | h | h
     ·omega
     ·exact h
     ·rw [List.getElem?_eq_none (by simp; omega)] at ej; cases ej
    subst this;rw [e2,Nat.sub_self] at ej;simp at ej; subst ej; exact hv
theorem xg {n:Nat}{c:T AV}{off:Nat}{l:List AV}(e:zV c off n=some l):l.length=n∧∀ (j:Nat) (v:AV),l[j]?=some v→c.get (off+j)=some v:=by
 obtain ⟨l0,rfl,e2,e3⟩:=zeV e;rw [List.append_nil];exact ⟨e2,e3⟩
theorem zdJ {c:T AV}{el:TypeId}{fz:Nat}{sg:Bool}{e:Nat}{L:Loc}(hv:VerRel P R w c el fz sg e L){off n:Nat}{l:List AV}
 (hl:zV c off n=some l) (h1:off+n≤e) (h2:L.minus≤off) :
 ∃ vs:List Value,(loadCells ⟨L.block,off - L.minus,none⟩ n).run P w=.ok vs.toArray w∧VRels R l vs:=by
 obtain ⟨cs,a,b,hb,he,_,_,hc⟩:=hv;obtain ⟨g1,g2⟩:=xg hl;refine ⟨(cs.extract (off - L.minus) (off - L.minus+n)).toList,?_,.of_get (by simp [g1]; omega) fun j x ej=>?_⟩
 ·rw [loadCells,yZ P _ _ el (a,b) w cs hb n 0 #[] (by omega),Array.empty_append,Array.toArray_toList];simp only [Nat.add_zero]
 ·have hj:j<n:=by
   rw [← g1]; rcases Nat.lt_or_ge j l.length with h | h
   ·exact h
   ·rw [List.getElem?_eq_none h] at ej; cases ej
  obtain ⟨y,hy,hr⟩:=hc (off+j) x (by omega) (by omega) (g2 j x ej);refine ⟨y,?_,hr⟩;rw [Array.getElem?_toList,Array.getElem?_extract,if_pos (by omega)];rw [show off - L.minus+j=off+j - L.minus from by omega]; exact hy
theorem zf2 {off n lo m b:Nat}{c:T AV}{cs:Array Value}{el:TypeId}{fz:Nat × Nat}{l:List AV}(hb:w.heap[b]?=some (.cells cs el fz))(hm:m≤cs.size)(hc:∀ k v,lo≤k→k<m→c.get k=some v→∃ x,cs[k]?=some x∧VRel R v x)
 (hl:zV c off n=some l) (ho:lo≤off∧off+n≤m) :
 ∃ vs:List Value,(loadCells ⟨b,off,none⟩ n).run P w=.ok vs.toArray w∧VRels R l vs:=by
 obtain ⟨g1,g2⟩:=xg hl;refine ⟨(cs.extract off (off+n)).toList,?_,.of_get (by simp [g1]; omega) fun j x ej=>?_⟩
 ·rw [loadCells,yZ P _ _ el fz w cs hb n 0 #[] (by omega),Array.empty_append,Array.toArray_toList];simp only [Nat.add_zero]
 ·have hj:j<n:=by
   rw [← g1]; rcases Nat.lt_or_ge j l.length with h | h
   ·exact h
   ·rw [List.getElem?_eq_none h] at ej; cases ej
  obtain ⟨y,hy,hr⟩:=hc (off+j) x (by omega) (by omega) (g2 j x ej);exact ⟨y,by rw [Array.getElem?_toList,Array.getElem?_extract,if_pos (by omega)]; exact hy,hr⟩
theorem zB (k:HRel P B R h w){i r off n:Nat}{l:List AV}(e:zb h i r off n=some l){L:Loc}(hL:R i r=some L)(h2:L.minus≤off) :
 ∃ vs:List Value,(loadCells ⟨L.block,off - L.minus,none⟩ n).run P w=.ok vs.toArray w∧VRels R l vs∧l.length=n:=by
 unfold zb at e;split at e
 ·rename_i c m el lo hi nv fz sg ex ho;split at e
  ·cases e
  ·rename_i e' he;split at e
   ·rename_i hc;obtain ⟨L',hL',hv⟩:=k.ver hL ho hc.1 hc.2.1 he;rw [hL] at hL'; cases hL';obtain ⟨vs,e1,e2⟩:=zdJ hv e hc.2.2 h2;exact ⟨vs,e1,e2,(xg e).1⟩
   ·cases e
 ·rename_i c lo m ho;split at e
  ·rename_i hc;obtain ⟨L',cs,el,fz,hL',q1,q2,q3,q4⟩:=k.obj' hL ho;rw [hc.1,hL'] at hL; cases hL;obtain ⟨vs,e1,e2⟩:=zf2 (P:=P) (R:=R) q2 q3 (fun k v a a' b=>let ⟨x,e1,e2⟩:=q4 k v a a' b; ⟨x,e1,VRel.mono (fun _ _ _ e=>by cases e) _ _ e2⟩) e hc.2;exact ⟨vs,by rw [q1,Nat.sub_zero]; exact e1,e2,(xg e).1⟩
  ·cases e
 ·cases e
theorem zcG {g off n:Nat}{c:T AV}{cs:Array Value}{el:TypeId}{fz:Nat × Nat}{l:List AV}(hb:w.heap[g]?=some (.cells cs el fz))(hc:∀ k v,c.get k=some v→∃ x,cs[k]?=some x∧VRel R v x)(hl:zV c off n=some l) :
 ∃ vs:List Value,(loadCells ⟨g,off,none⟩ n).run P w=.ok vs.toArray w∧VRels R l vs:=by
 obtain ⟨g1,g2⟩:=xg hl
 by_cases hn:n=0
 ·subst hn;obtain rfl:=List.length_eq_zero_iff.1 g1;exact ⟨[],by simp [loadCells,loadCellsFrom],rfl⟩
 ·have hlt:off+n≤cs.size:=by
   have hj:n - 1<l.length:=by omega
   obtain ⟨x,hx,_⟩:=hc _ _ (g2 (n - 1) _ (List.getElem?_eq_getElem hj));have:=(Array.getElem?_eq_some_iff.1 hx).1;omega
  refine ⟨(cs.extract off (off+n)).toList,?_,.of_get (by simp [g1]; omega) fun j x ej=>?_⟩
  ·rw [loadCells,yZ P _ _ el fz w cs hb n 0 #[] (by omega),Array.empty_append,Array.toArray_toList];simp only [Nat.add_zero]
  ·have hj:j<n:=by
    rw [← g1]; rcases Nat.lt_or_ge j l.length with h | h
    ·exact h
    ·rw [List.getElem?_eq_none h] at ej; cases ej
   obtain ⟨y,hy,hr⟩:=hc (off+j) x (g2 j x ej);exact ⟨y,by rw [Array.getElem?_toList,Array.getElem?_extract,if_pos (by omega)]; exact hy,hr⟩
theorem qF (k:HRel P B R h w){t:TypeId}{p v:AV}{p':Value}(e:zaK P h t p=some v)(hp:VRel R p p') :
 ∃ v',(Instr.loadAt t p').run P w=.ok v' w∧VRel R v v':=by
 unfold zaK at e;split at e
 ·rename_i i r off;obtain ⟨L,hL,hm,rfl⟩:=hp;simp only [Instr.loadAt,Instr.sureAddr,loadVar];split at e
  ·cases e
  ·rename_i ha;split at e
   ·cases e
   ·rename_i inf hi;split at e
    ·cases e
    ·rename_i l hl;cases e;obtain ⟨vs,e1,e2,_⟩:=zB k hl hL hm;refine ⟨.agg vs.toArray,?_,vs,rfl,e2⟩;simp [yD w ha,zj w hi,e1]
  ·rename_i ha;split at e
   ·rename_i x hx;cases e;obtain ⟨vs,e1,e2,_⟩:=zB k hx hL hm;obtain ⟨y,ys,rfl,hy,hys⟩:=e2;cases hys;refine ⟨y,?_,hy⟩;simp only [loadCells,loadCellsFrom,Sem.run_bind,add_plain,Nat.add_zero] at e1;cases hl:(load ⟨L.block,off - L.minus,none⟩).run P w with
    | halt hh w'=>rw [hl] at e1; cases e1
    | ok z w' =>
     rw [hl] at e1;simp at e1;obtain ⟨e1,rfl⟩:=e1;subst e1;rw [run_load] at hl;simp only [Sem.run_bind,Sem.run_pure,Result.andThen_ok,yD _ ha,Bool.false_eq_true,if_false,run_load,hl]
   ·cases e
 ·rename_i g off;cases hp;simp only [Instr.loadAt,Instr.sureAddr,loadVar];split at e
  ·cases e
  ·rename_i c hg;obtain ⟨_,cs,el,fz,hb,hc0⟩:=k.glob g c hg;have hc:∀ k v,c.get k=some v→∃ x,cs[k]?=some x∧VRel R v x:=fun k v e=>let ⟨x,e1,e2⟩:=hc0 k v e; ⟨x,e1,VRel.mono (fun _ _ _ e=>by cases e) _ _ e2⟩;split at e
   ·cases e
   ·rename_i ha;split at e
    ·cases e
    ·rename_i inf hi;split at e
     ·cases e
     ·rename_i l hl;cases e;obtain ⟨vs,e1,e2⟩:=zcG (P:=P) hb hc hl;refine ⟨.agg vs.toArray,?_,vs,rfl,e2⟩;simp [yD w ha,zj w hi,e1]
   ·rename_i ha;obtain ⟨x,hx,hxr⟩:=hc off v e;refine ⟨x,?_,hxr⟩;have hl:w.cell? ⟨g,off,none⟩=some x:=by rw [cell?_row w _ _ hb]; exact hx
    simp only [Sem.run_bind,Sem.run_pure,Result.andThen_ok,yD _ ha,Bool.false_eq_true,if_false,run_load,hl]
 ·cases e
theorem xz {t:TypeId}{cs:List AV}{off:Nat}{v:AV}{cs':List Value}(w:World)(e:zb3 P t cs off=some v)(hr:VRels R cs cs') :
 ∃ v',(part t cs'.toArray off).run P w=.ok v' w∧VRel R v v':=by
 unfold zb3 at e;split at e
 ·cases e
 ·rename_i ha;split at e
  ·cases e
  ·rename_i i hi;cases e;refine ⟨.agg (cs'.toArray.extract off (off+i.size)),by simp [part,yD w ha,zj w hi],(cs'.drop off).take i.size,?_,(hr.drop off).take _⟩;congr 1;apply Array.ext';simp
 ·rename_i ha;obtain ⟨y,hy,hyr⟩:=hr.get off v e;exact ⟨y,by simp [part,yD w ha,hy],hyr⟩
theorem zw {t:TypeId}{s:Nat}(e:xW P t=some s):∃ i,P.info? t=some i∧i.size=s:=by
 unfold xW at e;split at e
 ·cases e
 ·rename_i i hi; cases e; exact ⟨i,hi,rfl⟩
theorem zaH {s:TypeId}{x v:AV}{x':Value}{f:Nat}(w:World)(e:jL P s x f=some v)(hx:VRel R x x') :
 ∃ v',(Instr.fieldAt s x' f).run P w=.ok v' w∧VRel R v v':=by
 unfold jL at e;split at e
 ·cases e
 ·rename_i u hu;split at e
  ·rename_i fs;split at e
   ·cases e
   ·rename_i fl hf;unfold zaO at e;split at e
    ·rename_i i r o;obtain ⟨L,hL,hm,rfl⟩:=hx;split at e
     ·cases e
     ·cases e
     ·rename_i n hs;cases e;obtain ⟨inf,hi,hn⟩:=zw hs;refine ⟨.pointer (some ⟨L.block,o+fl.offset - L.minus,none⟩),?_,L,hL,by omega,rfl⟩;simp [Instr.fieldAt,za w hu,hf,Instr.sureAddr,fieldPlace,zj w hi,hn,add_plain];omega
    ·cases e
  ·cases e
theorem zfr {s:TypeId}{x v:AV}{x':Value}{f:Nat}(w:World)(e:zkr P s x f=some v)(hx:VRel R x x') :
 ∃ v',(Instr.field s x' f).run P w=.ok v' w∧VRel R v v':=by
 unfold zkr at e;split at e
 ·cases e
 ·rename_i u hu;split at e
  ·rename_i fs;split at e
   ·cases e
   ·rename_i fl hf;unfold zot at e;split at e
    ·obtain ⟨a,rfl,hr⟩:=hx;obtain ⟨v',e1,e2⟩:=xz w e hr;exact ⟨v',by simp [Instr.field,za w hu,hf,asAgg,e1],e2⟩
    ·cases e
  ·cases e
theorem zaF {t:TypeId}{x ix v:AV}{x' ix':Value}(w:World)(e:zf P t x ix=some v)(hx:VRel R x x')(hix:VRel R ix ix') :
 ∃ v',(Instr.indexAt t x' ix').run P w=.ok v' w∧VRel R v v':=by
 unfold zf at e;split at e
 ·rename_i k n;cases hix;split at e
  ·cases e
  ·rename_i u hu;split at e
   ·rename_i len el;unfold zbC at e;split at e
    ·cases e
    ·rename_i s hs;obtain ⟨inf,hi,rfl⟩:=zw hs;split at e
     ·rename_i i r o;obtain ⟨L,hL,hm,rfl⟩:=hx;unfold xZ at e;split at e
      ·rename_i hb;cases e;refine ⟨.pointer (some ⟨L.block,o+n.toNat*inf.size - L.minus,none⟩),?_,L,hL,by omega,rfl⟩;simp [Instr.indexAt,asIntOf,za w hu,Instr.sureAddr,hb.1,hb.2,zj w hi,add_plain];omega
      ·cases e
     ·rename_i g o;cases hx;split at e
      ·rename_i hb;cases e;refine ⟨.pointer (some ⟨g,o+n.toNat*inf.size,none⟩),?_,rfl⟩;simp [Instr.indexAt,asIntOf,za w hu,Instr.sureAddr,hb.1,hb.2,zj w hi,add_plain]
      ·cases e
     ·cases e
   ·rename_i el;unfold zc6 at e;split at e
    ·cases e
    ·rename_i s hs;obtain ⟨inf,hi,rfl⟩:=zw hs;split at e
     ·rename_i i r o len c;obtain ⟨L,hL,hm,rfl⟩:=hx;unfold xZ at e;split at e
      ·rename_i hb;cases e;refine ⟨.pointer (some ⟨L.block,o+n.toNat*inf.size - L.minus,none⟩),?_,L,hL,by omega,rfl⟩;simp [Instr.indexAt,asIntOf,za w hu,hb.1,hb.2,zj w hi,add_plain];omega
      ·cases e
     ·rename_i i r o len st;obtain ⟨L,a,hL,hm,hk,rfl,ha⟩:=hx;unfold xZ at e;split at e
      ·rename_i hb;cases e;obtain rfl:=ha (by omega);refine ⟨.pointer (some ⟨L.block,o+n.toNat*inf.size - L.minus,none⟩),?_,L,hL,by omega,rfl⟩;simp [Instr.indexAt,asIntOf,za w hu,hb.1,hb.2,zj w hi,add_plain];omega
      ·cases e
     ·cases e
   ·cases e
 ·cases e
theorem zet {t:TypeId}{x ix v:AV}{x' ix':Value}(w:World)(e:ze5 P t x ix=some v)(hx:VRel R x x')(hix:VRel R ix ix') :
 ∃ v',(Instr.index t x' ix').run P w=.ok v' w∧VRel R v v':=by
 unfold ze5 at e;split at e
 ·rename_i k n;cases hix;split at e
  ·cases e
  ·rename_i u hu;split at e
   ·rename_i len el;unfold zdV at e;split at e
    ·cases e
    ·rename_i s hs;obtain ⟨inf,hi,rfl⟩:=zw hs;split at e
     ·obtain ⟨a,rfl,hr⟩:=hx;split at e
      ·rename_i hb;obtain ⟨v',e1,e2⟩:=xz w e hr;exact ⟨v',by simp [Instr.index,asIntOf,za w hu,hb.1,hb.2,zj w hi,e1],e2⟩
      ·cases e
     ·cases e
   ·unfold zdG at e;split at e
    ·rename_i s;cases hx;split at e
     ·rename_i hb;unfold zla at e;split at e
      ·cases e
      ·rename_i b hs;cases e;refine ⟨.int .u8 b.toNat,?_,rfl⟩;have:(ByteArray.mk s.toArray)[n.toNat]?=some b:=by
        obtain ⟨hlt,hg⟩:=List.getElem?_eq_some_iff.1 hs;have hlt':n.toNat<(ByteArray.mk s.toArray).size:=by simpa [ByteArray.size] using hlt
        rw [getElem?_pos (ByteArray.mk s.toArray) n.toNat hlt'];exact congrArg some hg
       simp [Instr.index,asIntOf,za w hu,hb,this]
     ·cases e
    ·cases e
   ·cases e
 ·cases e
theorem zS {v:Int}{k:IntKind}{y n:Nat}(code:BoundsCode)(w:World)(e:z8 v y=some n):(Instr.sliceBound (.int k v) y code).run P w=.ok n w:=by
 unfold z8 at e;split at e
 ·rename_i hb;cases e;simp [Instr.sliceBound,asIntOf,hb.1,hb.2]
 ·cases e
def zje (_R:Bij) (o:Option Int) (v:Option Value):Prop:=match o with
 | none=>v=none
 | some n=>∃ k,v=some (.int k n)
theorem zW {isSl:Bool}{len cap:Nat}{lo hi mx:Option Int}{lo' hi' mx':Option Value}{r:Nat × Nat × Nat}(w:World)(e:zJ len cap lo hi mx=some r)
 (h1:zje R lo lo') (h2:zje R hi hi') (h3:zje R mx mx'):(Instr.sliceBounds isSl len cap lo' hi' mx').run P w=.ok r w:=by
 unfold zJ at e;split at e
 ·cases e
 ·rename_i m hm;split at e
  ·cases e
  ·rename_i hh hhi;split at e
   ·cases e
   ·rename_i l hl;cases e;unfold Instr.sliceBounds;cases mx with
    | none =>
     cases h3;simp only [yg] at hm;cases hm;cases hi with
     | none =>
      cases h2;simp [xa] at hhi;subst hhi;cases lo with
      | none=>cases h1; simp [zT] at hl; subst hl; simp
      | some v=>obtain ⟨k,rfl⟩:=h1; simp only [zT] at hl; simp [zS _ w hl]
     | some u =>
      obtain ⟨k2,rfl⟩:=h2;simp only [xa] at hhi;cases lo with
      | none=>cases h1; simp [zT] at hl; subst hl; simp [zS _ w hhi]
      | some v=>obtain ⟨k,rfl⟩:=h1; simp only [zT] at hl; simp [zS _ w hl,zS _ w hhi]
    | some u =>
     obtain ⟨k3,rfl⟩:=h3;simp only [yg] at hm;cases hi with
     | none=>cases h2; simp [xa] at hhi
     | some u2 =>
      obtain ⟨k2,rfl⟩:=h2;simp only [xa] at hhi;cases lo with
      | none=>cases h1; simp [zT] at hl; subst hl; simp [zS _ w hhi,zS _ w hm]
      | some v=>obtain ⟨k,rfl⟩:=h1; simp only [zT] at hl; simp [zS _ w hl,zS _ w hhi,zS _ w hm]
theorem zcS {len cap:Nat}{lo hi mx:Option Int}{l hh m:Nat}(e:zJ len cap lo hi mx=some (l,hh,m)) :
 l≤hh∧m≤cap∧(mx=none→m=cap)∧(hh≤m∨hh=len):=by
 unfold zJ at e;split at e
 ·cases e
 ·rename_i m' hm;split at e
  ·cases e
  ·rename_i h' hhi;split at e
   ·cases e
   ·rename_i l' hl;cases e;refine ⟨?_,?_,?_,?_⟩
    ·cases lo with
     | none=>simp [zT] at hl; omega
     | some v=>simp only [zT,z8] at hl; split at hl <;> simp at hl; omega
    ·cases mx with
     | none=>simp [yg] at hm; omega
     | some v=>simp only [yg,z8] at hm; split at hm <;> simp at hm; omega
    ·intro h0; subst h0; simp [yg] at hm; omega
    ·cases hi with
     | none =>
      cases mx with
      | none=>simp [xa] at hhi; omega
      | some v=>simp [xa] at hhi
     | some v=>simp only [xa,z8] at hhi; split at hhi <;> simp at hhi; omega
theorem zbN {len c c':Nat}{lo hi:Option Int}{l hh m:Nat}(hc:c≤c')(e:zJ len c lo hi none=some (l,hh,m)):zJ len c' lo hi none=some (l,hh,c'):=by
 unfold zJ at e ⊢;simp only [yg] at e ⊢;cases hi with
 | none =>
  simp only [xa,Option.isSome_none] at e ⊢;cases hl:zT lo len with
  | none=>simp [hl] at e
  | some x=>simp [hl] at e ⊢; omega
 | some v =>
  simp only [xa] at e ⊢;have:z8 v c'=z8 v c∨z8 v c=none:=by
   unfold z8
   by_cases hv:0≤v∧v≤(c:Int)
   ·left; rw [if_pos hv,if_pos ⟨hv.1,by omega⟩]
   ·right; rw [if_neg hv]
  rcases this with e1 | e1
  ·rw [e1];cases hb:z8 v c with
   | none=>simp [hb] at e
   | some y =>
    simp only [hb] at e ⊢;cases hl:zT lo y with
    | none=>simp [hl] at e
    | some x=>simp [hl] at e ⊢; omega
  ·rw [e1] at e; simp at e
end
end Go.Proofs.Ytcdigdplhlgcaaa.Ev
end
section
namespace Go.Proofs.Ytcdigdplhlgcaaa.Ev
open Go
section
variable {P:Program} {B:Base} {R:Bij} {h:AHeap} {w:World}
theorem jO (s:List UInt8)(l hh:Nat):(ByteArray.mk s.toArray).extract l hh=ByteArray.mk ((s.drop l).take (hh - l)).toArray:=by
 apply ByteArray.ext;rw [ByteArray.data_extract];apply Array.ext';simp
theorem zeK {lo hi mx:Option Int}{l hh m:Nat}(h:zJ 0 0 lo hi mx=some (l,hh,m)):l=0∧hh=0∧m=0:=by
 have hb:∀ {v:Int} {y k:Nat},z8 v y=some k→k≤y:=by
  intro v y k e;unfold z8 at e;split at e
  ·cases e; omega
  ·cases e
 unfold zJ at h;split at h
 ·cases h
 rename_i m' hm;split at h
 ·cases h
 rename_i h' hh';split at h
 ·cases h
 rename_i l' hl;cases h;have a1:m=0:=by
  unfold yg at hm;split at hm
  ·cases hm; rfl
  ·have:=hb hm; omega
 have a2:hh=0:=by
  unfold xa at hh';split at hh'
  ·split at hh'
   ·cases hh'
   ·cases hh'; rfl
  ·have:=hb hh'; omega
 have a3:l=0:=by
  unfold zT at hl;split at hl
  ·cases hl; rfl
  ·have:=hb hl; omega
 exact ⟨a3,a2,a1⟩
theorem zeF {t:TypeId}{x v:AV}{x':Value}{lo hi mx:Option Int}{lo' hi' mx':Option Value}(w:World)(e:zbc P t x lo hi mx=some v)(hx:VRel R x x')
 (h1:zje R lo lo') (h2:zje R hi hi') (h3:zje R mx mx'):∃ v',(Instr.sliceAt t x' lo' hi' mx').run P w=.ok v' w∧VRel R v v':=by
 unfold zbc at e;split at e
 ·cases e
 ·rename_i u hu;split at e
  ·rename_i n el;unfold zh9 at e;split at e
   ·rename_i i r o;obtain ⟨L,hL,hm,rfl⟩:=hx;split at e
    ·cases e
    ·rename_i s hs;obtain ⟨inf,hinf,rfl⟩:=zw hs;unfold zeU at e;split at e
     ·cases e
     ·rename_i l hh m hb;cases e;have hb':=zW (P:=P) (isSl:=false) w hb h1 h2 h3;refine ⟨_,by simp [Instr.sliceAt,za w hu,Instr.sureAddr,hb',zj w hinf]; rfl,L,hL,by split <;> omega,?_⟩
      by_cases hml:m=l
      ·simp [hml]
      ·simp [hml,add_plain]; omega
   ·cases e
  ·unfold zee at e;split at e
   ·rename_i s;cases hx;split at e
    ·cases e
    ·cases h3;unfold zqY at e;split at e
     ·cases e
     ·rename_i l hh m hb;cases e;have hb':=zW (P:=P) (isSl:=false) w hb h1 h2 rfl;refine ⟨.string ((ByteArray.mk s.toArray).extract l hh),?_,?_⟩
      ·have hz:(ByteArray.mk s.toArray).size=s.length:=by simp [ByteArray.size]
       simp [Instr.sliceAt,Instr.slice,za w hu,hz,hb']
      ·simp only [VRel]; rw [jO]
   ·cases e
  ·rename_i el;unfold yQ at e;split at e
   ·cases e
   ·rename_i s hs;obtain ⟨inf,hinf,rfl⟩:=zw hs;split at e
    ·rename_i len cap;cases hx;unfold zlh at e;split at e
     ·cases e
     ·rename_i l hh m hb;cases e;have hb':=zW (P:=P) (isSl:=true) w hb h1 h2 h3;refine ⟨.slice none (hh - l) (m - l),?_,rfl⟩;simp [Instr.sliceAt,Instr.slice,za w hu,hb',zj w hinf]
    ·rename_i i r o len cap;obtain ⟨L,hL,hm,rfl⟩:=hx;unfold zeU at e;split at e
     ·cases e
     ·rename_i l hh m hb;cases e;have hb':=zW (P:=P) (isSl:=true) w hb h1 h2 h3;refine ⟨_,by simp [Instr.sliceAt,Instr.slice,za w hu,hb',zj w hinf]; rfl,L,hL,by split <;> omega,?_⟩
      by_cases hml:m=l
      ·simp [hml]
      ·simp [hml,add_plain]; omega
    ·rename_i i r o len st;obtain ⟨L,a,hL,hm,hk,rfl,ha⟩:=hx;unfold zjt at e;split at e
     ·rename_i mxv;obtain ⟨k3,rfl⟩:=h3;split at e
      ·cases e
      ·rename_i n0;unfold zeU at e;split at e
       ·cases e
       ·rename_i l hh m hb;cases e;have hb'':zJ (n0+1) (L.kap - st) lo hi (some mxv)=some (l,hh,m):=by
         unfold zJ at hb ⊢;simp only [yg] at hb ⊢;have:z8 mxv (L.kap - st)=z8 mxv (n0+1)∨z8 mxv (n0+1)=none:=by
          unfold z8
          by_cases hc:0≤mxv∧mxv≤((n0+1:Nat):Int)
          ·left; rw [if_pos hc,if_pos ⟨hc.1,by omega⟩]
          ·right; rw [if_neg hc]
         rcases this with e1 | e1
         ·rw [e1]; exact hb
         ·rw [e1] at hb; simp at hb
        have hb':=zW (P:=P) (isSl:=true) w hb'' h1 h2 ⟨k3,rfl⟩;obtain rfl:=ha (by omega);refine ⟨_,by simp [Instr.sliceAt,Instr.slice,za w hu,hb',zj w hinf]; rfl,L,hL,by split <;> omega,?_⟩
        by_cases hml:m=l
        ·simp [hml]
        ·simp [hml,add_plain]; omega
     ·cases h3;split at e
      ·cases e
      ·rename_i l hh m hb;cases e;have hcap:=zbN (c':=L.kap - st) (by omega) hb;have hb':=zW (P:=P) (isSl:=true) w hcap h1 h2 rfl;obtain ⟨g1,g2,g3,g4⟩:=zcS hb;have hm':=g3 rfl;refine ⟨.slice (some (if L.kap - st=l then a else a.add (l*inf.size))) (hh - l) (L.kap - st - l),?_,L,(if L.kap - st=l then a else a.add (l*inf.size)),hL,by omega,by omega,?_,?_⟩
       ·simp only [Instr.sliceAt,Instr.slice,za w hu,hb',zj w hinf,Sem.run_bind,Result.andThen_ok,Sem.run_pure,Option.map_some]
        by_cases hml:L.kap - st=l
        ·simp [hml]
        ·simp [hml]
       ·rw [Nat.sub_sub]
       ·intro hlt;rw [if_neg (by omega)];obtain rfl:=ha (by omega);rw [add_plain];congr 1;omega
    ·obtain ⟨a,rfl⟩:=hx;split at e
     ·cases e
     ·rename_i b hb;obtain ⟨l,hh,m⟩:=b;cases e;have hb':=zW (P:=P) (isSl:=true) w hb h1 h2 h3;obtain ⟨rfl,rfl,rfl⟩:=zeK hb;refine ⟨_,by simp [Instr.sliceAt,Instr.slice,za w hu,hb',zj w hinf]; rfl,_,rfl⟩
    ·cases e
  ·cases e
theorem zmM (k:HRel P B R h w){i r off len st:Nat}{el:TypeId}{inf:TypeInfo}{L:Loc}(hi:P.info? el=some inf)(hL:R i r=some L)(hk:st+len≤L.kap):st+zhC h el inf.size i r off len st≤L.kap∧len≤zhC h el inf.size i r off len st:=by
 unfold zhC;split
 ·rename_i c n el' lo hi' nv fz sg ex ho;split
  ·rename_i e he;split
   ·rename_i hc;obtain ⟨c1,c2,rfl,c4,c5,c6⟩:=hc;obtain ⟨L',hL',cs,f0,f1,g1,g2,g3,g4,g5⟩:=k.ver hL ho c1 c2 he;rw [hL] at hL'; cases hL';rw [zx hi] at g3;have h1:e / inf.size≤L.kap:=by
     refine Nat.le_of_mul_le_mul_right ?_ c5;rw [g3.1];exact Nat.le_trans (Nat.div_mul_le_self _ _) g2
    omega
   ·omega
  ·omega
 ·omega
theorem zfw (k:HRel P B R h w){t:TypeId}{x v:AV}{x':Value}{lo hi mx:Option Int}{lo' hi' mx':Option Value}(e:zez P h t x lo hi mx=some v)(hx:VRel R x x')
 (h1:zje R lo lo') (h2:zje R hi hi') (h3:zje R mx mx'):∃ v',(Instr.sliceAt t x' lo' hi' mx').run P w=.ok v' w∧VRel R v v':=by
 unfold zez at e;split at e
 ·cases e
 ·cases h3;split at e
  ·rename_i el hu;split at e
   ·cases e
   ·rename_i s hs;obtain ⟨inf,hinf,rfl⟩:=zw hs;unfold ze7 at e;split at e
    ·rename_i i r o len st;obtain ⟨L,a,hL,hm,hk,rfl,ha⟩:=hx;obtain ⟨q1,q2⟩:=zmM (el:=el) (off:=o) k hinf hL hk;unfold zjt at e;simp only at e;split at e
     ·cases e
     ·rename_i l hh m hb;cases e;have hcap:=zbN (c':=L.kap - st) (by omega) hb;have hb':=zW (P:=P) (isSl:=true) w hcap h1 h2 rfl;obtain ⟨g1,g2,g3,g4⟩:=zcS hb;have hm':=g3 rfl;refine ⟨.slice (some (if L.kap - st=l then a else a.add (l*inf.size))) (hh - l) (L.kap - st - l),?_,L,(if L.kap - st=l then a else a.add (l*inf.size)),hL,by omega,by omega,?_,?_⟩
      ·simp only [Instr.sliceAt,Instr.slice,za w hu,hb',zj w hinf,Sem.run_bind,Result.andThen_ok,Sem.run_pure,Option.map_some]
       by_cases hml:L.kap - st=l
       ·simp [hml]
       ·simp [hml]
      ·rw [Nat.sub_sub]
      ·intro hlt;rw [if_neg (by omega)];obtain rfl:=ha (by omega);rw [add_plain];congr 1;omega
    ·cases e
  ·cases e
theorem zfn (k:HRel P B R h w){t:TypeId}{x v:AV}{x':Value}{lo hi mx:Option Int}{lo' hi' mx':Option Value}(e:zN P h t x lo hi mx=some v)(hx:VRel R x x')
 (h1:zje R lo lo') (h2:zje R hi hi') (h3:zje R mx mx'):∃ v',(Instr.sliceAt t x' lo' hi' mx').run P w=.ok v' w∧VRel R v v':=by
 unfold zN at e;split at e
 ·rename_i hs;cases e;exact zeF w hs hx h1 h2 h3
 ·exact zfw k e hx h1 h2 h3
theorem zcU:∀ (vs:List Value) (cs:Array Value) (off k:Nat),off+k+vs.length≤cs.size →
 (vs.zipIdx k).foldl (fun cs (x:Value × Nat)=>cs.setIfInBounds (off+x.2) x.1) cs=zfz cs (off+k) vs
 | [],_,_,_,_=>rfl
 | v::r,cs,off,k,h=>by
  simp only [List.length_cons] at h;simp only [List.zipIdx_cons,List.foldl_cons,zfz];rw [zcU r _ off (k+1) (by simp; omega)];rfl
theorem zgv (cells:List AV)(off:Nat)(vs:List AV)(h:off+vs.length≤cells.length)(k:Nat) :
 (j0 cells off vs)[k]?=if off≤k∧k<off+vs.length then vs[k - off]? else cells[k]?:=by
 unfold j0;rw [List.append_assoc,List.getElem?_append];have h1:(cells.take off).length=off:=by simp; omega
 rw [h1]
 by_cases a:k<off
 ·rw [if_pos a,if_neg (by omega),List.getElem?_take,if_pos a]
 ·rw [if_neg a,List.getElem?_append]
  by_cases b:k - off<vs.length
  ·rw [if_pos b,if_pos (by omega)]
  ·rw [if_neg b,if_neg (by omega),List.getElem?_drop];congr 1; omega
theorem vS (cells:List AV)(off:Nat)(vs:List AV)(h:off+vs.length≤cells.length):(j0 cells off vs).length=cells.length:=by
 unfold j0; simp; omega
def zs3 (R:Bij) (a:Nat × AV) (b:Nat × Value):Prop:=a.1=b.1∧VRel R a.2 b.2
theorem yH {place place':Nat→Option (Nat × Nat)}(hp:∀ i r,place i=some r→place' i=some r):∀ {parts:List (Nat × AV)} {parts':List (Nat × Value)} {cells r:List AV} {cells':Array Value},
 zd3 place cells parts=some r→All2 (zs3 R) parts parts'→VRels R cells cells'.toList→∃ r',Instr.fill place' cells' parts'=some r'∧VRels R r r'.toList∧r.length=cells.length
 | [],_,cells,r,cells',e,hl,hc=>by cases hl; simp [zd3] at e; subst e; exact ⟨cells',rfl,hc,rfl⟩
 | (i,v)::rest,parts',cells,r,cells',e,hl,hc=>by
  obtain ⟨⟨i',v'⟩,ps,rfl,⟨rfl,hv⟩,hrest⟩:=hl;simp only [zd3] at e;split at e
  ·cases e
  ·rename_i off size hpl;split at e
   ·rename_i hcond;have hvc:=hv.cells;have hsz:cells'.size=cells.length:=by have:=hc.length; simpa using this
    have hvs:v'.cells.size=v.cells.length:=by have:=hvc.length; simpa using this
    have hupd:v'.cells.zipIdx.foldl (fun cs (x:Value × Nat)=>cs.setIfInBounds (off+x.2) x.1) cells'=zfz cells' off v'.cells.toList:=by
     rw [← Array.foldl_toList,Array.toList_zipIdx,zcU _ _ off 0 (by simp; omega)]; rfl
    have hr2:VRels R (j0 cells off v.cells) (zfz cells' off v'.cells.toList).toList:=by
     refine .of_get (by simp [xD,vS _ _ _ (by omega:off+v.cells.length≤cells.length),hsz]) fun k x ek=>?_;rw [zgv _ _ _ (by omega)] at ek;rw [Array.getElem?_toList,zaX _ _ _ _ (by simp; omega)];have hlen:v'.cells.toList.length=v.cells.length:=hvc.length;rw [hlen];split at ek
     ·rename_i hk; rw [if_pos hk]; exact hvc.get _ x ek
     ·rename_i hk; rw [if_neg hk]; obtain ⟨y,hy,hyr⟩:=hc.get k x ek; exact ⟨y,by simpa using hy,hyr⟩
    obtain ⟨r',e1,e2,e3⟩:=yH hp e hrest hr2;refine ⟨r',?_,e2,by rw [e3,vS _ _ _ (by omega)]⟩;simp only [Instr.fill,hp _ _ hpl];rw [if_neg (by simp; omega)];rw [← e1];congr 1
   ·cases e
theorem qw (w:World):∀ {fs:List Field} {l:List (Nat × Nat)},yU P fs=some l →
 (fs.mapM fun f=>Prod.mk f.offset <$> sizeOf f.type:Sem (List (Nat × Nat))).run P w=.ok l w
 | [],l,e=>by simp [yU] at e; subst e; simp
 | f::r,l,e=>by
  simp only [yU] at e;split at e
  ·cases e
  ·rename_i i hi;split at e
   ·cases e
   ·rename_i l' hl;cases e;simp only [List.mapM_cons,Sem.run_bind,Sem.run_map,zj w hi,Result.andThen_ok,qw w hl,Sem.run_pure]
theorem zfh {t:TypeId}{parts:List (Nat × AV)}{parts':Array (Nat × Value)}{v:AV}(w:World)(e:qa P t parts=some v)(hp:All2 (zs3 R) parts parts'.toList) :
 ∃ v',(Instr.build t parts').run P w=.ok v' w∧VRel R v v':=by
 unfold qa at e;split at e
 ·cases e
 ·rename_i z hz;obtain ⟨inf,zv,hi,hzv,hzr⟩:=zI R hz;split at e
  ·rename_i fs hu;split at e
   ·cases e
   ·rename_i pl hpl;cases hf:zd3 (fun i=>pl[i]?) z.cells parts with
    | none=>simp [hf] at e
    | some r =>
     simp [hf] at e; subst e;have hm:(fs.mapM fun f=>Prod.mk f.offset <$> sizeOf f.type:Sem (Array (Nat × Nat))).run P w=.ok pl.toArray w:=by
      rw [Array.mapM_eq_mapM_toList];simp only [Sem.run_map,qw w hpl,Result.andThen_ok]
     obtain ⟨r',e1,e2,_⟩:=yH (place':=fun i=>pl[i]?) (fun i r h=>h) hf hp hzr.cells;refine ⟨.agg r',?_,r'.toList,by simp,e2⟩;simp [Instr.build,zo w hi hzv,za w hu,hm,e1]
  ·rename_i n el hu;split at e
   ·cases e
   ·rename_i inf2 hi2;cases hf:zd3 (fun k=>some (k*inf2.size,inf2.size)) z.cells parts with
    | none=>simp [hf] at e
    | some r =>
     simp [hf] at e; subst e;obtain ⟨r',e1,e2,_⟩:=yH (place':=fun i=>some (i*inf2.size,inf2.size)) (fun i r h=>h) hf hp hzr.cells;refine ⟨.agg r',?_,r'.toList,by simp,e2⟩;simp [Instr.build,zo w hi hzv,za w hu,zj w hi2,e1]
  ·cases e
theorem zeX {op:BinOp}{k k':IntKind}{a b:Int}{v:AV}{t:TypeId}(w:World)(e:zlg op k a b=some v)(hk:k=k'∨zbj op=true) :
 ∃ v',(binOp op t (.int k a) (.int k' b)).run P w=.ok v' w∧VRel R v v':=by
 cases op <;> simp only [zlg,zlQ,zme,zkU,zlX,zkk,zmp,zmf,zkJ,zmw,zi3,quoA,remA,andA,orA,xorA,zj7,zkN,shlA,shrA,qb] at e
 case shl=>split at e <;> cases e; rename_i hb; exact ⟨_,by simp [binOp,Op.shift,hb],rfl⟩
 case shr=>split at e <;> cases e; rename_i hb; exact ⟨_,by simp [binOp,Op.shift,hb],rfl⟩
 all_goals (simp [zbj] at hk; subst hk)
 case quo=>split at e <;> cases e; rename_i hb; exact ⟨_,by simp [binOp,Op.intDiv,hb],rfl⟩
 case rem=>split at e <;> cases e; rename_i hb; exact ⟨_,by simp [binOp,Op.intDiv,hb],rfl⟩
 all_goals (cases e; exact ⟨_,by simp [binOp,Op.intArith,Op.intBits,Op.intCmp],rfl⟩)
theorem zfs {op:BinOp}{a b:List UInt8}{v:AV}{t:TypeId}(w:World)(e:zkY op a b=some v) :
 ∃ v',(binOp op t (.string ⟨a.toArray⟩) (.string ⟨b.toArray⟩)).run P w=.ok v' w∧VRel R v v':=by
 cases op <;> simp only [zkY,zrp,qb] at e
 case add =>
  split at e
  ·rename_i hl;cases e;refine ⟨.string (⟨a.toArray⟩++⟨b.toArray⟩),?_,?_⟩
   ·have hz:∀ s:List UInt8,(ByteArray.mk s.toArray).size=s.length:=fun s=>by simp [ByteArray.size]
    have hmax:¬ (((a.length+b.length:Nat):Int) > IntKind.i64.max):=by
     have:IntKind.i64.max=9223372036854775807:=by decide
     rw [this]; omega
    simp only [binOp,Op.stringOp,hz,hmax,if_false,Sem.run_pure]
   ·simp only [VRel];congr 1
  ·cases e
 all_goals first
  | (cases e; exact ⟨_,by simp [binOp,Op.stringOp],rfl⟩)
  | (cases e)
theorem yN {eq:TypeId→AV→AV→Option Bool}{eq':TypeId→Value→Value→Sem Bool}(w:World)
 (hq:∀ t x y x' y' b,eq t x y=some b→VRel R x x'→VRel R y y'→(eq' t x' y').run P w=.ok b w)
 {xs ys:List AV} {xs' ys':List Value} (hx:VRels R xs xs') (hy:VRels R ys ys'):∀ {fs:List Field} {b:Bool},qr P eq xs ys fs=some b →
 ∃ c,(forIn fs ((none:Option Bool),()) fun f _r=>do
  if f.name ≠ "_" then
   if !(← eq' f.type (← part f.type xs'.toArray f.offset) (← part f.type ys'.toArray f.offset)) then pure (.done (some false,())) else pure (.yield (none,()))
  else pure (.yield (none,())):Sem (Option Bool × Unit)).run P w=.ok c w∧c.fst=(if b then none else some false)
 | [],b,e=>by
  simp [qr] at e; subst e;exact ⟨(none,()),by simp,rfl⟩
 | f::r,b,e=>by
  simp only [qr] at e;split at e
  ·rename_i hn;split at e
   ·rename_i u v hu hv;obtain ⟨u',eu,ru⟩:=xz w hu hx;obtain ⟨v',ev',rv⟩:=xz w hv hy;split at e
    ·rename_i hb;obtain ⟨c,e1,e2⟩:=yN w hq hx hy e;refine ⟨c,?_,e2⟩;simp only [List.forIn_cons,Sem.run_bind,eu,ev',hq _ _ _ _ _ _ hb ru rv,Result.andThen_ok,hn,ne_eq,not_false_eq_true,if_true,Bool.not_true,Bool.false_eq_true,if_false,Sem.run_pure];exact e1
    ·rename_i hb;cases e;refine ⟨(some false,()),?_,rfl⟩;simp only [List.forIn_cons,Sem.run_bind,eu,ev',hq _ _ _ _ _ _ hb ru rv,Result.andThen_ok,hn,ne_eq,not_false_eq_true,if_true,Bool.not_false,Sem.run_pure]
    ·cases e
   ·cases e
  ·rename_i hn;obtain ⟨c,e1,e2⟩:=yN w hq hx hy e;refine ⟨c,?_,e2⟩;simp only [List.forIn_cons,Sem.run_bind,hn,if_false,Sem.run_pure,Result.andThen_ok];exact e1
theorem HRel.plain (k:HRel P B R h w){i r:Nat}{L:Loc}(hL:R i r=some L)(hv:zgI h i r=true)(hp:jN h i=true) :
 ∃ (cs:Array Value) (el:TypeId),(∃ fz,w.heap[L.block]?=some (.cells cs el fz))∧∀ j,w.frozen? ⟨L.block,j,none⟩=false:=by
 unfold zgI at hv;unfold jN at hp;split at hv
 ·rename_i c n el lo hi nv fz sg ex ho;rw [ho] at hp;simp only [Bool.and_eq_true,beq_iff_eq,Bool.not_eq_true'] at hp hv;split at hv
  ·rename_i e he;simp only [Bool.and_eq_true,decide_eq_true_eq] at hv;obtain ⟨L',hL',cs,a,b,f1,_,_,f4,_⟩:=k.ver hL ho hv.1 hv.2 he;rw [hL] at hL'; cases hL';refine ⟨cs,el,⟨(a,b),f1⟩,fun j=>?_⟩;rw [frozen?_row w _ _ f1];simp only [Bool.and_eq_false_iff,decide_eq_false_iff_not]
   by_cases hc:a≤j
   ·right;intro hj;rcases f4.2 j hc hj with h | h
    ·omega
    ·rw [hp.2] at h; cases h.1
   ·left; exact hc
  ·cases hv
 ·cases hv
theorem HRel.plainRo (k:HRel P B R h w){i:Nat}(e:jN h i=true):¬ B.ro i:=by
 unfold jN at e;split at e
 ·rename_i ho; exact k.notRo ho rfl
 ·cases e
theorem zcn (k:HRel P B R h w){i r o i' r' o':Nat}{b:Bool}{L L':Loc}(e:vk h i r o i' r' o'=some b)
 (h1:R i r=some L) (h2:R i' r'=some L') (m1:L.minus≤o) (m2:L'.minus≤o') :
 (sameAddr ⟨L.block,o - L.minus,none⟩ ⟨L'.block,o' - L'.minus,none⟩).run P w=.ok b w:=by
 unfold vk at e;split at e
 ·rename_i hi;subst hi;split at e
  ·rename_i hr;obtain ⟨rfl,hv⟩:=hr;rw [h1] at h2; cases h2;cases e;simp only [sameAddr,beq_self_eq_true,if_true];have:((⟨L.block,o - L.minus,none⟩:Addr)==⟨L.block,o' - L.minus,none⟩)=(o==o'):=by
    rw [Bool.eq_iff_iff]; simp; omega
   simp [this]
  ·cases e
 ·rename_i hi;split at e
  ·rename_i hc;cases e;simp only [Bool.and_eq_true] at hc;obtain ⟨⟨⟨v1,v2⟩,p1⟩,p2⟩:=hc;have hb:L.block≠L'.block:=fun hb=>hi (k.apart _ _ _ _ _ _ h1 h2 hb (.inl (k.plainRo p1)));obtain ⟨cs,el,⟨z1,f1⟩,g1⟩:=k.plain h1 v1 p1;obtain ⟨cs',el',⟨z2,f2⟩,g2⟩:=k.plain h2 v2 p2;have s1:w.shape? L.block=some (el,cs.size):=by simp [World.shape?,f1]
   have s2:w.shape? L'.block=some (el',cs'.size):=by simp [World.shape?,f2]
   have hne:(L.block==L'.block)=false:=by simpa using hb
   simp [sameAddr,hne,g1,noView,viewAt,mayBeOne,stringish,s1,s2,g2]
  ·cases e
end
end Go.Proofs.Ytcdigdplhlgcaaa.Ev
end
