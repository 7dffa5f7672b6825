import Derived.Test.YtdbfpjgnlfejmaaDoorF00
import Derived.Test.YtdbfpjgnlfejmaaDoorF01
import Derived.Test.YtdbfpjgnlfejmaaDoorF02
import Derived.Test.YtdbfpjgnlfejmaaDoorF03
import Derived.Test.YtdbfpjgnlfejmaaDoorF04
import Derived.Test.YtdbfpjgnlfejmaaDoorF05
section
set_option maxRecDepth 100000
set_option linter.unusedVariables false
namespace Go.Proofs.YtdbfpjgnlfejmaaDoor.dg
open Go Ev mq
noncomputable def AwP (pc:Nat→AV) (s t:List UInt8) (n nu i:Int) (q z L N:Nat) (G:T (T AV)):AM:=⟨⟨30,48,(.node (.node (.node (.node (.node (.node .leaf (some (.int .i64 i)) .leaf) none .leaf) none .leaf) (some (.ptr 2 0 0)) .leaf) (some (.ptr 1 0 0)) (.node .leaf none (.node .leaf none (.node .leaf (some (.slg 0 0 0 q 0)) .leaf)))) none (.node .leaf none (.node .leaf none (.node .leaf none (.node .leaf (some (.int .i64 (q:Int))) .leaf))))),
 [.code (cd P (30:Nat) [(1:Nat),(1:Nat),(1:Nat),(1:Nat),(1:Nat),(0:Nat),(1:Nat),(0:Nat),(0:Nat)]),.inLoop (cd P (30:Nat) [(1:Nat),(1:Nat),(1:Nat),(1:Nat),(1:Nat),(0:Nat),(1:Nat),(0:Nat),(0:Nat)]),.inBlock 0,.code (cd P (30:Nat) [(1:Nat),(1:Nat),(1:Nat),(1:Nat),(1:Nat),(1:Nat)])],[],.run,CallKind.normal,none⟩,
 [],
 ⟨(.node (.node (.node .leaf (some (.cells (.fn fun k=>some (.int .u8 ((s.getD k (0:UInt8)).toNat:Int))) N 5 0 0 1 0 false .leaf)) .leaf) (some (.cells (.node (.node (.node .leaf (some (.nils 0 0)) .leaf) (some (.str t)) .leaf) (some (.int .i64 n)) (.node (.node .leaf (some (.int .u64 nu)) .leaf) (some (.slg 0 0 0 q 0)) .leaf)) 5 45 0 0 1 0 false .leaf)) .leaf) (some (.cells (.fn fun c=>some (pc c)) z 9 0 0 1 0 false .leaf)) (.node .leaf (some (.cells (.node (.node .leaf (some (.slg 3 0 0 L 0)) .leaf) (some (.ptr 2 0 0)) .leaf) 2 69 0 0 1 0 false .leaf)) .leaf)),4,G⟩⟩
noncomputable def AwB (pc cell:Nat→AV) (s t:List UInt8) (n nu i:Int) (m q z zd L N:Nat) (G:T (T AV)):AM:=⟨⟨30,48,(.node (.node (.node (.node (.node (.node .leaf (some (.int .i64 i)) .leaf) none .leaf) none .leaf) (some (.ptr 3 0 0)) .leaf) (some (.ptr 2 0 0)) (.node .leaf none (.node .leaf none (.node .leaf (some (.slg 0 0 0 q 0)) .leaf)))) none (.node .leaf none (.node .leaf none (.node .leaf none (.node .leaf (some (.int .i64 (q:Int))) .leaf))))),
 [.code (cd P (30:Nat) [(1:Nat),(1:Nat),(1:Nat),(1:Nat),(1:Nat),(0:Nat),(1:Nat),(0:Nat),(0:Nat)]),.inLoop (cd P (30:Nat) [(1:Nat),(1:Nat),(1:Nat),(1:Nat),(1:Nat),(0:Nat),(1:Nat),(0:Nat),(0:Nat)]),.inBlock 0,.code (cd P (30:Nat) [(1:Nat),(1:Nat),(1:Nat),(1:Nat),(1:Nat),(1:Nat)])],[],.run,CallKind.normal,none⟩,
 [],
 ⟨(.node (.node (.node .leaf (some (.cells (.node (.node .leaf (some (.slg 4 0 0 L 0)) .leaf) (some (.ptr 3 0 0)) .leaf) 2 69 0 0 1 0 false .leaf)) .leaf) (some (.cells (.fn fun c=>some (cell c)) zd 35 0 0 1 0 false .leaf)) .leaf) (some (.cells (.fn fun c=>some (pc c)) z 9 0 0 1 0 false .leaf)) (.node (.node .leaf (some (.cells (.fn fun k=>some (.int .u8 ((s.getD k (0:UInt8)).toNat:Int))) N 5 0 0 1 0 false .leaf)) .leaf) (some (.cells (.node (.node (.node .leaf (some (.slg 1 0 0 m 0)) .leaf) (some (.str t)) .leaf) (some (.int .i64 n)) (.node (.node .leaf (some (.int .u64 nu)) .leaf) (some (.slg 0 0 0 q 0)) .leaf)) 5 45 0 0 1 0 false .leaf)) .leaf)),5,G⟩⟩
noncomputable def Aen (s:List UInt8) (L N:Nat) (G:T (T AV)):AM:=⟨⟨30,48,(.node (.node (.node .leaf (some (.ptr 0 0 0)) .leaf) none .leaf) none .leaf),
 [.code (cd P (30:Nat) [(1:Nat),(1:Nat),(1:Nat),(1:Nat),(1:Nat),(1:Nat),(1:Nat)])],[],.run,CallKind.normal,none⟩,
 [],
 ⟨(.node (.node .leaf (some (.cells (.fn fun k=>some (.int .u8 ((s.getD k (0:UInt8)).toNat:Int))) N 5 0 0 1 0 false .leaf)) .leaf) (some (.cells (.node (.node .leaf (some (.slg 1 0 0 L 0)) .leaf) (some (.ptr 0 0 0)) .leaf) 2 69 0 0 1 0 false .leaf)) .leaf),2,G⟩⟩
noncomputable def Aed (cell:Nat→AV) (s:List UInt8) (zd L N:Nat) (G:T (T AV)):AM:=⟨⟨30,48,(.node (.node (.node .leaf (some (.ptr 1 0 0)) .leaf) none .leaf) none .leaf),
 [.code (cd P (30:Nat) [(1:Nat),(1:Nat),(1:Nat),(1:Nat),(1:Nat),(1:Nat),(1:Nat)])],[],.run,CallKind.normal,none⟩,
 [],
 ⟨(.node (.node .leaf (some (.cells (.node (.node .leaf (some (.slg 2 0 0 L 0)) .leaf) (some (.ptr 1 0 0)) .leaf) 2 69 0 0 1 0 false .leaf)) .leaf) (some (.cells (.fn fun c=>some (cell c)) zd 35 0 0 1 0 false .leaf)) (.node .leaf (some (.cells (.fn fun k=>some (.int .u8 ((s.getD k (0:UInt8)).toNat:Int))) N 5 0 0 1 0 false .leaf)) .leaf)),3,G⟩⟩
noncomputable def Aep (pc:Nat→AV) (s:List UInt8) (z L N:Nat) (G:T (T AV)):AM:=⟨⟨30,48,(.node (.node (.node .leaf (some (.ptr 1 0 0)) .leaf) none .leaf) none .leaf),
 [.code (cd P (30:Nat) [(1:Nat),(1:Nat),(1:Nat),(1:Nat),(1:Nat),(1:Nat),(1:Nat)])],[],.run,CallKind.normal,none⟩,
 [],
 ⟨(.node (.node .leaf (some (.cells (.node (.node .leaf (some (.slg 2 0 0 L 0)) .leaf) (some (.ptr 1 0 0)) .leaf) 2 69 0 0 1 0 false .leaf)) .leaf) (some (.cells (.fn fun c=>some (pc c)) z 9 0 0 1 0 false .leaf)) (.node .leaf (some (.cells (.fn fun k=>some (.int .u8 ((s.getD k (0:UInt8)).toNat:Int))) N 5 0 0 1 0 false .leaf)) .leaf)),3,G⟩⟩
noncomputable def Aeb (pc cell:Nat→AV) (s:List UInt8) (z zd L N:Nat) (G:T (T AV)):AM:=⟨⟨30,48,(.node (.node (.node .leaf (some (.ptr 2 0 0)) .leaf) none .leaf) none .leaf),
 [.code (cd P (30:Nat) [(1:Nat),(1:Nat),(1:Nat),(1:Nat),(1:Nat),(1:Nat),(1:Nat)])],[],.run,CallKind.normal,none⟩,
 [],
 ⟨(.node (.node (.node .leaf (some (.cells (.fn fun k=>some (.int .u8 ((s.getD k (0:UInt8)).toNat:Int))) N 5 0 0 1 0 false .leaf)) .leaf) (some (.cells (.fn fun c=>some (cell c)) zd 35 0 0 1 0 false .leaf)) .leaf) (some (.cells (.fn fun c=>some (pc c)) z 9 0 0 1 0 false .leaf)) (.node .leaf (some (.cells (.node (.node .leaf (some (.slg 3 0 0 L 0)) .leaf) (some (.ptr 2 0 0)) .leaf) 2 69 0 0 1 0 false .leaf)) .leaf)),4,G⟩⟩
theorem awne (R:AV→AHeap→Prop)(t w0 w1 w2 e:List UInt8)(n nu:Int)(w w4:List UInt8)(G:T (T AV))(K:AM→Prop):Obl P 30 (fun v h=>R v h) 0 K [.run 12,.know 9 false,.run 5,.know 13 false,.run 14,.callv [0,1] (.str w0),.run 1,.callv [0,1] (.str w1),.run 40,.opw false,.run 21,.callv [0,1] (.str w2),.run 41,.opw false,.run 14,.told 2 (.fn fun k=>some (.int .u8 (((w1++w2).getD k (0:UInt8)).toNat:Int))) (w1++w2).length,.can 0 [0,1,2] [1,3] [],.run 24,.callh [] [0] (.str e) ⟨.leaf,0,G⟩,.run 1,.callv [0,1] (.str w),.run 1,.callv [0,1] (.str w4),.run 41,.opw false,.run 14,.told 2 (.fn fun k=>some (.int .u8 ((((w1++w2)++w4).getD k (0:UInt8)).toNat:Int))) ((w1++w2)++w4).length,.can 0 [1,2] [3] []] ((zb P 30 [(.agg [.int .i64 n,.str t,.nils 0 0,.nils 0 0,.int .u64 nu])] G))=((decide (n<(0:Int))=false)∧(decide (n > (14:Int))=false)∧(Goal P 0 48 (fun v _=>v=AV.str w0) (zb P 48 [.str [],.int .u64 (IntKind.u64.wrap n)] G))∧(some (AV.str t)=some (AV.str t))∧(Goal P 0 49 (fun v _=>v=AV.str w1) (zb P 49 [.str w0,.str t] G))∧(w1.length≤w1.length∧0<w1.length∧zY w1.length 1=true)∧(Goal P 0 48 (fun v _=>v=AV.str w2) (zb P 48 [.str [],.int .u64 0] G))∧(w2.length≤w2.length∧0<w2.length∧0+w1.length*1≤w1.length*1∧0≤0+w1.length*1∧0=0*1∧zY (w1.length+w2.length) 1=true∧w1.length*1<0+(w1.length+w2.length)*1)∧(xk ((w1++w2).length) ((.fn fun k=>some (AV.int .u8 (↑((w1++w2).getD k (0:UInt8)).toNat:Int)))) ((.fn fun k=>bif (0+w1.length*1).ble k&&k.blt (0+w1.length*1+w2.length*1) then (fun k=>some (AV.int .u8 (↑(w2.getD k (0:UInt8)).toNat:Int))) (k - (0+w1.length*1)) else (T.fn fun k=>some (AV.int .u8 (↑(w1.getD k (0:UInt8)).toNat:Int))).get k)))∧((w1++w2).length=0+w1.length*1+w2.length*1)∧(za fun k=>some (AV.int .u8 (↑((w1++w2).getD k (0:UInt8)).toNat:Int)))∧(Goal P 0 14 (fun v h=>v=AV.str e∧h={ objs:=T.leaf,next:=0,glob:=G }) (zb P 14 [.nils 0 0] G))∧(some (AV.int .u64 nu)=some (AV.int .u64 nu))∧(Goal P 0 49 (fun v _=>v=AV.str w) (zb P 49 [.str [],.str e] G))∧(some (AV.int .u64 nu)=some (AV.int .u64 nu))∧(Goal P 0 48 (fun v _=>v=AV.str w4) (zb P 48 [.str w,.int .u64 nu] G))∧(w4.length≤w4.length∧0<w4.length∧0+(w1.length+w2.length)*1≤(w1++w2).length∧0≤0+(w1.length+w2.length)*1∧0=0*1∧zY (w1.length+w2.length+w4.length) 1=true∧(w1++w2).length<0+(w1.length+w2.length+w4.length)*1)∧(xk ((w1++w2++w4).length) ((.fn fun k=>some (AV.int .u8 (↑((w1++w2++w4).getD k (0:UInt8)).toNat:Int)))) ((.fn fun k=>bif (0+(w1.length+w2.length)*1).ble k&&k.blt (0+(w1.length+w2.length)*1+w4.length*1) then (fun k=>some (AV.int .u8 (↑(w4.getD k (0:UInt8)).toNat:Int))) (k - (0+(w1.length+w2.length)*1)) else (T.fn fun k=>some (AV.int .u8 (↑((w1++w2).getD k (0:UInt8)).toNat:Int))).get k)))∧((w1++w2++w4).length=0+(w1.length+w2.length)*1+w4.length*1)∧(za fun k=>some (AV.int .u8 (↑((w1++w2++w4).getD k (0:UInt8)).toNat:Int)))∧K (Aen (w1++w2++w4) (w1.length+w2.length+w4.length) (w1++w2++w4).length G)):=by kernel_rfl
theorem awde (R:AV→AHeap→Prop)(cell:Nat→AV)(t w0 w1 w2 e:List UInt8)(n nu:Int)(w w4:List UInt8)(m zd:Nat)(G:T (T AV))(K:AM→Prop):Obl P 30 (fun v h=>R v h) 1 K [.run 12,.know 9 false,.run 5,.know 13 false,.run 14,.callv [0,1] (.str w0),.run 1,.callv [0,1] (.str w1),.run 40,.opw false,.run 21,.callv [0,1] (.str w2),.run 41,.opw false,.run 14,.told 3 (.fn fun k=>some (.int .u8 (((w1++w2).getD k (0:UInt8)).toNat:Int))) (w1++w2).length,.can 1 [0,1,2,3] [1,3] [],.run 24,.callh [(0,0,[])] [0] (.str e) ⟨(.node .leaf (some (.cells (.fn fun j=>some (cell j)) zd 35 0 0 1 0 false .leaf)) .leaf),1,G⟩,.run 1,.callv [0,1] (.str w),.run 1,.callv [0,1] (.str w4),.run 41,.opw false,.run 14,.told 3 (.fn fun k=>some (.int .u8 ((((w1++w2)++w4).getD k (0:UInt8)).toNat:Int))) ((w1++w2)++w4).length,.can 1 [0,2,3] [3] []] ((zf P 30 [(.agg [.int .i64 n,.str t,.nils 0 0,.slg 0 0 0 m 0,.int .u64 nu])] ⟨(.node .leaf (some (.cells (.fn fun j=>some (cell j)) zd 35 0 0 1 0 false .leaf)) .leaf),1,G⟩))=((decide (n<(0:Int))=false)∧(decide (n > (14:Int))=false)∧(Goal P 0 48 (fun v _=>v=AV.str w0) (zb P 48 [.str [],.int .u64 (IntKind.u64.wrap n)] G))∧(some (AV.str t)=some (AV.str t))∧(Goal P 0 49 (fun v _=>v=AV.str w1) (zb P 49 [.str w0,.str t] G))∧(w1.length≤w1.length∧0<w1.length∧zY w1.length 1=true)∧(Goal P 0 48 (fun v _=>v=AV.str w2) (zb P 48 [.str [],.int .u64 0] G))∧(w2.length≤w2.length∧0<w2.length∧0+w1.length*1≤w1.length*1∧0≤0+w1.length*1∧0=0*1∧zY (w1.length+w2.length) 1=true∧w1.length*1<0+(w1.length+w2.length)*1)∧(xk ((w1++w2).length) ((.fn fun k=>some (AV.int .u8 (↑((w1++w2).getD k (0:UInt8)).toNat:Int)))) ((.fn fun k=>bif (0+w1.length*1).ble k&&k.blt (0+w1.length*1+w2.length*1) then (fun k=>some (AV.int .u8 (↑(w2.getD k (0:UInt8)).toNat:Int))) (k - (0+w1.length*1)) else (T.fn fun k=>some (AV.int .u8 (↑(w1.getD k (0:UInt8)).toNat:Int))).get k)))∧((w1++w2).length=0+w1.length*1+w2.length*1)∧(za fun j=>some (cell j))∧(za fun k=>some (AV.int .u8 (↑((w1++w2).getD k (0:UInt8)).toNat:Int)))∧(za fun j=>some (cell j))∧(za fun j=>some (cell j))∧(Goal P 1 14 (fun v h=>v=AV.str e∧h={ objs:=T.leaf.node (some (AObj.cells (T.fn fun j=>some (cell j)) zd 35 0 0 1 0 false T.leaf)) T.leaf,next:=1,glob:=G }) (zf P 14 [.slg 0 0 0 m 0] ⟨(.node .leaf (some (.cells (.fn fun j=>some (cell j)) zd 35 0 0 1 0 false .leaf)) .leaf),1,G⟩))∧(some (AV.int .u64 nu)=some (AV.int .u64 nu))∧(Goal P 0 49 (fun v _=>v=AV.str w) (zb P 49 [.str [],.str e] G))∧(some (AV.int .u64 nu)=some (AV.int .u64 nu))∧(Goal P 0 48 (fun v _=>v=AV.str w4) (zb P 48 [.str w,.int .u64 nu] G))∧(w4.length≤w4.length∧0<w4.length∧0+(w1.length+w2.length)*1≤(w1++w2).length∧0≤0+(w1.length+w2.length)*1∧0=0*1∧zY (w1.length+w2.length+w4.length) 1=true∧(w1++w2).length<0+(w1.length+w2.length+w4.length)*1)∧(xk ((w1++w2++w4).length) ((.fn fun k=>some (AV.int .u8 (↑((w1++w2++w4).getD k (0:UInt8)).toNat:Int)))) ((.fn fun k=>bif (0+(w1.length+w2.length)*1).ble k&&k.blt (0+(w1.length+w2.length)*1+w4.length*1) then (fun k=>some (AV.int .u8 (↑(w4.getD k (0:UInt8)).toNat:Int))) (k - (0+(w1.length+w2.length)*1)) else (T.fn fun k=>some (AV.int .u8 (↑((w1++w2).getD k (0:UInt8)).toNat:Int))).get k)))∧((w1++w2++w4).length=0+(w1.length+w2.length)*1+w4.length*1)∧(za fun j=>some (cell j))∧(za fun k=>some (AV.int .u8 (↑((w1++w2++w4).getD k (0:UInt8)).toNat:Int)))∧K (Aed cell (w1++w2++w4) zd (w1.length+w2.length+w4.length) (w1++w2++w4).length G)):=by kernel_rfl
theorem awps (R:AV→AHeap→Prop)(pc:Nat→AV)(t w0 w1 w2:List UInt8)(n nu:Int)(q z:Nat)(G:T (T AV))(K:AM→Prop):Obl P 30 (fun v h=>R v h) 1 K [.run 12,.know 9 false,.run 5,.know 13 false,.run 14,.callv [0,1] (.str w0),.run 1,.callv [0,1] (.str w1),.run 40,.opw false,.run 21,.callv [0,1] (.str w2),.run 41,.opw false,.run 24,.told 3 (.fn fun k=>some (.int .u8 (((w1++w2).getD k (0:UInt8)).toNat:Int))) (w1++w2).length,.can 1 [0,1,2,3] [1,3,29,30,31] []] ((zf P 30 [(.agg [.int .i64 n,.str t,.slg 0 0 0 q 0,.nils 0 0,.int .u64 nu])] ⟨(.node .leaf (some (.cells (.fn fun c=>some (pc c)) z 9 0 0 1 0 false .leaf)) .leaf),1,G⟩))=((decide (n<(0:Int))=false)∧(decide (n > (14:Int))=false)∧(Goal P 0 48 (fun v _=>v=AV.str w0) (zb P 48 [.str [],.int .u64 (IntKind.u64.wrap n)] G))∧(some (AV.str t)=some (AV.str t))∧(Goal P 0 49 (fun v _=>v=AV.str w1) (zb P 49 [.str w0,.str t] G))∧(w1.length≤w1.length∧0<w1.length∧zY w1.length 1=true)∧(Goal P 0 48 (fun v _=>v=AV.str w2) (zb P 48 [.str [],.int .u64 (IntKind.u64.wrap (↑q:Int))] G))∧(w2.length≤w2.length∧0<w2.length∧0+w1.length*1≤w1.length*1∧0≤0+w1.length*1∧0=0*1∧zY (w1.length+w2.length) 1=true∧w1.length*1<0+(w1.length+w2.length)*1)∧(xk ((w1++w2).length) ((.fn fun k=>some (AV.int .u8 (↑((w1++w2).getD k (0:UInt8)).toNat:Int)))) ((.fn fun k=>bif (0+w1.length*1).ble k&&k.blt (0+w1.length*1+w2.length*1) then (fun k=>some (AV.int .u8 (↑(w2.getD k (0:UInt8)).toNat:Int))) (k - (0+w1.length*1)) else (T.fn fun k=>some (AV.int .u8 (↑(w1.getD k (0:UInt8)).toNat:Int))).get k)))∧((w1++w2).length=0+w1.length*1+w2.length*1)∧(za fun c=>some (pc c))∧(za fun k=>some (AV.int .u8 (↑((w1++w2).getD k (0:UInt8)).toNat:Int)))∧K (AwP pc (w1++w2) t n nu (Int.ofNat 0) q z (w1.length+w2.length) (w1++w2).length G)):=by kernel_rfl
theorem awpl (R:AV→AHeap→Prop)(pc:Nat→AV)(s t p:List UInt8)(n nu i:Int)(w:List UInt8)(q z L N:Nat)(G:T (T AV))(K:AM→Prop):Obl P 30 (fun v h=>R v h) 1 K [.run 5,.know 32 true,.run 6,.op,.op,.slot 34 (.str p),.run 5,.callv [0,1] (.str w),.run 41,.opw false,.run 20,.told 3 (.fn fun k=>some (.int .u8 (((s++w).getD k (0:UInt8)).toNat:Int))) (s++w).length,.can 1 [0,1,2,3] [1,3,29,30,31] []] ((AwP pc s t n nu i q z L N G))=((decide (i<(↑q:Int))=true)∧((0:Int)≤i∧i<(↑q:Int))∧(0+i.toNat*1+1≤z)∧(pc (0+i.toNat*1)=AV.str p)∧(Goal P 0 49 (fun v _=>v=AV.str w) (zb P 49 [.str [],.str p] G))∧(w.length≤w.length∧0<w.length∧0+L*1≤N∧0≤0+L*1∧0=0*1∧zY (L+w.length) 1=true∧N<0+(L+w.length)*1)∧(xk ((s++w).length) ((.fn fun k=>some (AV.int .u8 (↑((s++w).getD k (0:UInt8)).toNat:Int)))) ((.fn fun k=>bif (0+L*1).ble k&&k.blt (0+L*1+w.length*1) then (fun k=>some (AV.int .u8 (↑(w.getD k (0:UInt8)).toNat:Int))) (k - (0+L*1)) else (T.fn fun k=>some (AV.int .u8 (↑(s.getD k (0:UInt8)).toNat:Int))).get k)))∧((s++w).length=0+L*1+w.length*1)∧(za fun c=>some (pc c))∧(za fun k=>some (AV.int .u8 (↑((s++w).getD k (0:UInt8)).toNat:Int)))∧K (AwP pc (s++w) t n nu (IntKind.i64.wrap (i+(1:Int))) q z (L+w.length) (s++w).length G)):=by kernel_rfl
theorem awpe (R:AV→AHeap→Prop)(pc:Nat→AV)(s t e:List UInt8)(n nu i:Int)(w w4:List UInt8)(q z L N:Nat)(G:T (T AV))(K:AM→Prop):Obl P 30 (fun v h=>R v h) 1 K [.run 5,.know 32 false,.run 9,.callh [] [0] (.str e) ⟨.leaf,0,G⟩,.run 1,.callv [0,1] (.str w),.run 1,.callv [0,1] (.str w4),.run 41,.opw false,.run 14,.told 3 (.fn fun k=>some (.int .u8 (((s++w4).getD k (0:UInt8)).toNat:Int))) (s++w4).length,.can 1 [0,2,3] [3] []] ((AwP pc s t n nu i q z L N G))=((decide (i<(↑q:Int))=false)∧(Goal P 0 14 (fun v h=>v=AV.str e∧h={ objs:=T.leaf,next:=0,glob:=G }) (zb P 14 [.nils 0 0] G))∧(some (AV.int .u64 nu)=some (AV.int .u64 nu))∧(Goal P 0 49 (fun v _=>v=AV.str w) (zb P 49 [.str [],.str e] G))∧(some (AV.int .u64 nu)=some (AV.int .u64 nu))∧(Goal P 0 48 (fun v _=>v=AV.str w4) (zb P 48 [.str w,.int .u64 nu] G))∧(w4.length≤w4.length∧0<w4.length∧0+L*1≤N∧0≤0+L*1∧0=0*1∧zY (L+w4.length) 1=true∧N<0+(L+w4.length)*1)∧(xk ((s++w4).length) ((.fn fun k=>some (AV.int .u8 (↑((s++w4).getD k (0:UInt8)).toNat:Int)))) ((.fn fun k=>bif (0+L*1).ble k&&k.blt (0+L*1+w4.length*1) then (fun k=>some (AV.int .u8 (↑(w4.getD k (0:UInt8)).toNat:Int))) (k - (0+L*1)) else (T.fn fun k=>some (AV.int .u8 (↑(s.getD k (0:UInt8)).toNat:Int))).get k)))∧((s++w4).length=0+L*1+w4.length*1)∧(za fun c=>some (pc c))∧(za fun k=>some (AV.int .u8 (↑((s++w4).getD k (0:UInt8)).toNat:Int)))∧K (Aep pc (s++w4) z (L+w4.length) (s++w4).length G)):=by kernel_rfl
theorem awbs (R:AV→AHeap→Prop)(pc cell:Nat→AV)(t w0 w1 w2:List UInt8)(n nu:Int)(m q z zd:Nat)(G:T (T AV))(K:AM→Prop):Obl P 30 (fun v h=>R v h) 2 K [.run 12,.know 9 false,.run 5,.know 13 false,.run 14,.callv [0,1] (.str w0),.run 1,.callv [0,1] (.str w1),.run 40,.opw false,.run 21,.callv [0,1] (.str w2),.run 41,.opw false,.run 24,.told 4 (.fn fun k=>some (.int .u8 (((w1++w2).getD k (0:UInt8)).toNat:Int))) (w1++w2).length,.can 2 [0,1,2,3,4] [1,3,29,30,31] []] ((zf P 30 [(.agg [.int .i64 n,.str t,.slg 0 0 0 q 0,.slg 1 0 0 m 0,.int .u64 nu])] ⟨(.node (.node .leaf (some (.cells (.fn fun j=>some (cell j)) zd 35 0 0 1 0 false .leaf)) .leaf) (some (.cells (.fn fun c=>some (pc c)) z 9 0 0 1 0 false .leaf)) .leaf),2,G⟩))=((decide (n<(0:Int))=false)∧(decide (n > (14:Int))=false)∧(Goal P 0 48 (fun v _=>v=AV.str w0) (zb P 48 [.str [],.int .u64 (IntKind.u64.wrap n)] G))∧(some (AV.str t)=some (AV.str t))∧(Goal P 0 49 (fun v _=>v=AV.str w1) (zb P 49 [.str w0,.str t] G))∧(w1.length≤w1.length∧0<w1.length∧zY w1.length 1=true)∧(Goal P 0 48 (fun v _=>v=AV.str w2) (zb P 48 [.str [],.int .u64 (IntKind.u64.wrap (↑q:Int))] G))∧(w2.length≤w2.length∧0<w2.length∧0+w1.length*1≤w1.length*1∧0≤0+w1.length*1∧0=0*1∧zY (w1.length+w2.length) 1=true∧w1.length*1<0+(w1.length+w2.length)*1)∧(xk ((w1++w2).length) ((.fn fun k=>some (AV.int .u8 (↑((w1++w2).getD k (0:UInt8)).toNat:Int)))) ((.fn fun k=>bif (0+w1.length*1).ble k&&k.blt (0+w1.length*1+w2.length*1) then (fun k=>some (AV.int .u8 (↑(w2.getD k (0:UInt8)).toNat:Int))) (k - (0+w1.length*1)) else (T.fn fun k=>some (AV.int .u8 (↑(w1.getD k (0:UInt8)).toNat:Int))).get k)))∧((w1++w2).length=0+w1.length*1+w2.length*1)∧(za fun c=>some (pc c))∧(za fun j=>some (cell j))∧(za fun k=>some (AV.int .u8 (↑((w1++w2).getD k (0:UInt8)).toNat:Int)))∧K (AwB pc cell (w1++w2) t n nu (Int.ofNat 0) m q z zd (w1.length+w2.length) (w1++w2).length G)):=by kernel_rfl
theorem awbl (R:AV→AHeap→Prop)(pc cell:Nat→AV)(s t p:List UInt8)(n nu i:Int)(w:List UInt8)(m q z zd L N:Nat)(G:T (T AV))(K:AM→Prop):Obl P 30 (fun v h=>R v h) 2 K [.run 5,.know 32 true,.run 6,.op,.op,.slot 34 (.str p),.run 5,.callv [0,1] (.str w),.run 41,.opw false,.run 20,.told 4 (.fn fun k=>some (.int .u8 (((s++w).getD k (0:UInt8)).toNat:Int))) (s++w).length,.can 2 [0,1,2,3,4] [1,3,29,30,31] []] ((AwB pc cell s t n nu i m q z zd L N G))=((decide (i<(↑q:Int))=true)∧((0:Int)≤i∧i<(↑q:Int))∧(0+i.toNat*1+1≤z)∧(pc (0+i.toNat*1)=AV.str p)∧(Goal P 0 49 (fun v _=>v=AV.str w) (zb P 49 [.str [],.str p] G))∧(w.length≤w.length∧0<w.length∧0+L*1≤N∧0≤0+L*1∧0=0*1∧zY (L+w.length) 1=true∧N<0+(L+w.length)*1)∧(xk ((s++w).length) ((.fn fun k=>some (AV.int .u8 (↑((s++w).getD k (0:UInt8)).toNat:Int)))) ((.fn fun k=>bif (0+L*1).ble k&&k.blt (0+L*1+w.length*1) then (fun k=>some (AV.int .u8 (↑(w.getD k (0:UInt8)).toNat:Int))) (k - (0+L*1)) else (T.fn fun k=>some (AV.int .u8 (↑(s.getD k (0:UInt8)).toNat:Int))).get k)))∧((s++w).length=0+L*1+w.length*1)∧(za fun c=>some (pc c))∧(za fun j=>some (cell j))∧(za fun k=>some (AV.int .u8 (↑((s++w).getD k (0:UInt8)).toNat:Int)))∧K (AwB pc cell (s++w) t n nu (IntKind.i64.wrap (i+(1:Int))) m q z zd (L+w.length) (s++w).length G)):=by kernel_rfl
theorem awbe (R:AV→AHeap→Prop)(pc cell:Nat→AV)(s t e:List UInt8)(n nu i:Int)(w w4:List UInt8)(m q z zd L N:Nat)(G:T (T AV))(K:AM→Prop):Obl P 30 (fun v h=>R v h) 2 K [.run 5,.know 32 false,.run 9,.callh [(1,0,[])] [0] (.str e) ⟨(.node .leaf (some (.cells (.fn fun j=>some (cell j)) zd 35 0 0 1 0 false .leaf)) .leaf),1,G⟩,.run 1,.callv [0,1] (.str w),.run 1,.callv [0,1] (.str w4),.run 41,.opw false,.run 14,.told 4 (.fn fun k=>some (.int .u8 (((s++w4).getD k (0:UInt8)).toNat:Int))) (s++w4).length,.can 2 [0,1,3,4] [3] []] ((AwB pc cell s t n nu i m q z zd L N G))=((decide (i<(↑q:Int))=false)∧(za fun j=>some (cell j))∧(za fun j=>some (cell j))∧(Goal P 1 14 (fun v h=>v=AV.str e∧h={ objs:=T.leaf.node (some (AObj.cells (T.fn fun j=>some (cell j)) zd 35 0 0 1 0 false T.leaf)) T.leaf,next:=1,glob:=G }) (zf P 14 [.slg 0 0 0 m 0] ⟨(.node .leaf (some (.cells (.fn fun j=>some (cell j)) zd 35 0 0 1 0 false .leaf)) .leaf),1,G⟩))∧(some (AV.int .u64 nu)=some (AV.int .u64 nu))∧(Goal P 0 49 (fun v _=>v=AV.str w) (zb P 49 [.str [],.str e] G))∧(some (AV.int .u64 nu)=some (AV.int .u64 nu))∧(Goal P 0 48 (fun v _=>v=AV.str w4) (zb P 48 [.str w,.int .u64 nu] G))∧(w4.length≤w4.length∧0<w4.length∧0+L*1≤N∧0≤0+L*1∧0=0*1∧zY (L+w4.length) 1=true∧N<0+(L+w4.length)*1)∧(xk ((s++w4).length) ((.fn fun k=>some (AV.int .u8 (↑((s++w4).getD k (0:UInt8)).toNat:Int)))) ((.fn fun k=>bif (0+L*1).ble k&&k.blt (0+L*1+w4.length*1) then (fun k=>some (AV.int .u8 (↑(w4.getD k (0:UInt8)).toNat:Int))) (k - (0+L*1)) else (T.fn fun k=>some (AV.int .u8 (↑(s.getD k (0:UInt8)).toNat:Int))).get k)))∧((s++w4).length=0+L*1+w4.length*1)∧(za fun c=>some (pc c))∧(za fun j=>some (cell j))∧(za fun k=>some (AV.int .u8 (↑((s++w4).getD k (0:UInt8)).toNat:Int)))∧K (Aeb pc cell (s++w4) z zd (L+w4.length) (s++w4).length G)):=by kernel_rfl
theorem awzn (R:AV→AHeap→Prop)(s:List UInt8)(L N r0:Nat)(G:T (T AV))(_K:AM→Prop):Obl P 30 (fun v h=>R v h) 0 _K [.run 13,.slot 6 (.slg 1 0 0 (r0+1) 0),.run 6,.ext s,.run 7,.can 0 [] [2] [],.done] ((Aen s L N G))=((AV.slg 1 0 0 L 0=AV.slg 1 0 0 (r0+1) 0)∧((0:Int)<(↑L:Int)∧(↑L:Int)<(2:Int) ^ 40∧(↑L:Int).toNat≤N∧P.cellsOf 5=1∧zK (zu (T.fn fun k=>some (AV.int .u8 (↑(s.getD k (0:UInt8)).toNat:Int))) 0 (↑L:Int).toNat)=some (AV.str s))∧(R (.str s) (⟨.leaf,0,G⟩))):=by kernel_rfl
theorem awzd (R:AV→AHeap→Prop)(cell:Nat→AV)(s:List UInt8)(zd L N r0:Nat)(G:T (T AV))(_K:AM→Prop):Obl P 30 (fun v h=>R v h) 1 _K [.run 13,.slot 6 (.slg 2 0 0 (r0+1) 0),.run 6,.ext s,.run 7,.can 1 [0] [2] [],.done] ((Aed cell s zd L N G))=((AV.slg 2 0 0 L 0=AV.slg 2 0 0 (r0+1) 0)∧((0:Int)<(↑L:Int)∧(↑L:Int)<(2:Int) ^ 40∧(↑L:Int).toNat≤N∧P.cellsOf 5=1∧zK (zu (T.fn fun k=>some (AV.int .u8 (↑(s.getD k (0:UInt8)).toNat:Int))) 0 (↑L:Int).toNat)=some (AV.str s))∧(za fun j=>some (cell j))∧(R (.str s) (⟨(.node .leaf (some (.cells (.fn fun j=>some (cell j)) zd 35 0 0 1 0 false .leaf)) .leaf),1,G⟩))):=by kernel_rfl
theorem awzp (R:AV→AHeap→Prop)(pc:Nat→AV)(s:List UInt8)(z L N r0:Nat)(G:T (T AV))(_K:AM→Prop):Obl P 30 (fun v h=>R v h) 1 _K [.run 13,.slot 6 (.slg 2 0 0 (r0+1) 0),.run 6,.ext s,.run 7,.can 1 [0] [2] [],.done] ((Aep pc s z L N G))=((AV.slg 2 0 0 L 0=AV.slg 2 0 0 (r0+1) 0)∧((0:Int)<(↑L:Int)∧(↑L:Int)<(2:Int) ^ 40∧(↑L:Int).toNat≤N∧P.cellsOf 5=1∧zK (zu (T.fn fun k=>some (AV.int .u8 (↑(s.getD k (0:UInt8)).toNat:Int))) 0 (↑L:Int).toNat)=some (AV.str s))∧(za fun c=>some (pc c))∧(R (.str s) (⟨(.node .leaf (some (.cells (.fn fun c=>some (pc c)) z 9 0 0 1 0 false .leaf)) .leaf),1,G⟩))):=by kernel_rfl
theorem awzb (R:AV→AHeap→Prop)(pc cell:Nat→AV)(s:List UInt8)(z zd L N r0:Nat)(G:T (T AV))(_K:AM→Prop):Obl P 30 (fun v h=>R v h) 2 _K [.run 13,.slot 6 (.slg 3 0 0 (r0+1) 0),.run 6,.ext s,.run 7,.can 2 [0,1] [2] [],.done] ((Aeb pc cell s z zd L N G))=((AV.slg 3 0 0 L 0=AV.slg 3 0 0 (r0+1) 0)∧((0:Int)<(↑L:Int)∧(↑L:Int)<(2:Int) ^ 40∧(↑L:Int).toNat≤N∧P.cellsOf 5=1∧zK (zu (T.fn fun k=>some (AV.int .u8 (↑(s.getD k (0:UInt8)).toNat:Int))) 0 (↑L:Int).toNat)=some (AV.str s))∧(za fun c=>some (pc c))∧(za fun j=>some (cell j))∧(R (.str s) (⟨(.node (.node .leaf (some (.cells (.fn fun j=>some (cell j)) zd 35 0 0 1 0 false .leaf)) .leaf) (some (.cells (.fn fun c=>some (pc c)) z 9 0 0 1 0 false .leaf)) .leaf),2,G⟩))):=by kernel_rfl
theorem awnx (R:AV→AHeap→Prop)(t:List UInt8)(n nu:Int)(G:T (T AV))(_K:AM→Prop):Obl P 30 (fun v h=>R v h) 0 _K [.run 12,.know 9 true,.run 10,.can 0 [] [2] [],.run 1,.done] ((zb P 30 [(.agg [.int .i64 n,.str t,.nils 0 0,.nils 0 0,.int .u64 nu])] G))=((decide (n<(0:Int))=true)∧(R (.str []) (⟨.leaf,0,G⟩))):=by kernel_rfl
theorem awny (R:AV→AHeap→Prop)(t:List UInt8)(n nu:Int)(G:T (T AV))(_K:AM→Prop):Obl P 30 (fun v h=>R v h) 0 _K [.run 12,.know 9 false,.run 5,.know 13 true,.run 5,.can 0 [] [2] [],.run 1,.done] ((zb P 30 [(.agg [.int .i64 n,.str t,.nils 0 0,.nils 0 0,.int .u64 nu])] G))=((decide (n<(0:Int))=false)∧(decide (n > (14:Int))=true)∧(R (.str []) (⟨.leaf,0,G⟩))):=by kernel_rfl
theorem awdx (R:AV→AHeap→Prop)(cell:Nat→AV)(t:List UInt8)(n nu:Int)(m zd:Nat)(G:T (T AV))(_K:AM→Prop):Obl P 30 (fun v h=>R v h) 1 _K [.run 12,.know 9 true,.run 10,.can 1 [0] [2] [],.run 1,.done] ((zf P 30 [(.agg [.int .i64 n,.str t,.nils 0 0,.slg 0 0 0 m 0,.int .u64 nu])] ⟨(.node .leaf (some (.cells (.fn fun j=>some (cell j)) zd 35 0 0 1 0 false .leaf)) .leaf),1,G⟩))=((decide (n<(0:Int))=true)∧(za fun j=>some (cell j))∧(R (.str []) (⟨(.node .leaf (some (.cells (.fn fun j=>some (cell j)) zd 35 0 0 1 0 false .leaf)) .leaf),1,G⟩))):=by kernel_rfl
theorem awdy (R:AV→AHeap→Prop)(cell:Nat→AV)(t:List UInt8)(n nu:Int)(m zd:Nat)(G:T (T AV))(_K:AM→Prop):Obl P 30 (fun v h=>R v h) 1 _K [.run 12,.know 9 false,.run 5,.know 13 true,.run 5,.can 1 [0] [2] [],.run 1,.done] ((zf P 30 [(.agg [.int .i64 n,.str t,.nils 0 0,.slg 0 0 0 m 0,.int .u64 nu])] ⟨(.node .leaf (some (.cells (.fn fun j=>some (cell j)) zd 35 0 0 1 0 false .leaf)) .leaf),1,G⟩))=((decide (n<(0:Int))=false)∧(decide (n > (14:Int))=true)∧(za fun j=>some (cell j))∧(R (.str []) (⟨(.node .leaf (some (.cells (.fn fun j=>some (cell j)) zd 35 0 0 1 0 false .leaf)) .leaf),1,G⟩))):=by kernel_rfl
theorem awpx (R:AV→AHeap→Prop)(pc:Nat→AV)(t:List UInt8)(n nu:Int)(q z:Nat)(G:T (T AV))(_K:AM→Prop):Obl P 30 (fun v h=>R v h) 1 _K [.run 12,.know 9 true,.run 10,.can 1 [0] [2] [],.run 1,.done] ((zf P 30 [(.agg [.int .i64 n,.str t,.slg 0 0 0 q 0,.nils 0 0,.int .u64 nu])] ⟨(.node .leaf (some (.cells (.fn fun c=>some (pc c)) z 9 0 0 1 0 false .leaf)) .leaf),1,G⟩))=((decide (n<(0:Int))=true)∧(za fun c=>some (pc c))∧(R (.str []) (⟨(.node .leaf (some (.cells (.fn fun c=>some (pc c)) z 9 0 0 1 0 false .leaf)) .leaf),1,G⟩))):=by kernel_rfl
theorem awpy (R:AV→AHeap→Prop)(pc:Nat→AV)(t:List UInt8)(n nu:Int)(q z:Nat)(G:T (T AV))(_K:AM→Prop):Obl P 30 (fun v h=>R v h) 1 _K [.run 12,.know 9 false,.run 5,.know 13 true,.run 5,.can 1 [0] [2] [],.run 1,.done] ((zf P 30 [(.agg [.int .i64 n,.str t,.slg 0 0 0 q 0,.nils 0 0,.int .u64 nu])] ⟨(.node .leaf (some (.cells (.fn fun c=>some (pc c)) z 9 0 0 1 0 false .leaf)) .leaf),1,G⟩))=((decide (n<(0:Int))=false)∧(decide (n > (14:Int))=true)∧(za fun c=>some (pc c))∧(R (.str []) (⟨(.node .leaf (some (.cells (.fn fun c=>some (pc c)) z 9 0 0 1 0 false .leaf)) .leaf),1,G⟩))):=by kernel_rfl
theorem awbx (R:AV→AHeap→Prop)(pc cell:Nat→AV)(t:List UInt8)(n nu:Int)(m q z zd:Nat)(G:T (T AV))(_K:AM→Prop):Obl P 30 (fun v h=>R v h) 2 _K [.run 12,.know 9 true,.run 10,.can 2 [0,1] [2] [],.run 1,.done] ((zf P 30 [(.agg [.int .i64 n,.str t,.slg 0 0 0 q 0,.slg 1 0 0 m 0,.int .u64 nu])] ⟨(.node (.node .leaf (some (.cells (.fn fun j=>some (cell j)) zd 35 0 0 1 0 false .leaf)) .leaf) (some (.cells (.fn fun c=>some (pc c)) z 9 0 0 1 0 false .leaf)) .leaf),2,G⟩))=((decide (n<(0:Int))=true)∧(za fun c=>some (pc c))∧(za fun j=>some (cell j))∧(R (.str []) (⟨(.node (.node .leaf (some (.cells (.fn fun j=>some (cell j)) zd 35 0 0 1 0 false .leaf)) .leaf) (some (.cells (.fn fun c=>some (pc c)) z 9 0 0 1 0 false .leaf)) .leaf),2,G⟩))):=by kernel_rfl
theorem awby (R:AV→AHeap→Prop)(pc cell:Nat→AV)(t:List UInt8)(n nu:Int)(m q z zd:Nat)(G:T (T AV))(_K:AM→Prop):Obl P 30 (fun v h=>R v h) 2 _K [.run 12,.know 9 false,.run 5,.know 13 true,.run 5,.can 2 [0,1] [2] [],.run 1,.done] ((zf P 30 [(.agg [.int .i64 n,.str t,.slg 0 0 0 q 0,.slg 1 0 0 m 0,.int .u64 nu])] ⟨(.node (.node .leaf (some (.cells (.fn fun j=>some (cell j)) zd 35 0 0 1 0 false .leaf)) .leaf) (some (.cells (.fn fun c=>some (pc c)) z 9 0 0 1 0 false .leaf)) .leaf),2,G⟩))=((decide (n<(0:Int))=false)∧(decide (n > (14:Int))=true)∧(za fun c=>some (pc c))∧(za fun j=>some (cell j))∧(R (.str []) (⟨(.node (.node .leaf (some (.cells (.fn fun j=>some (cell j)) zd 35 0 0 1 0 false .leaf)) .leaf) (some (.cells (.fn fun c=>some (pc c)) z 9 0 0 1 0 false .leaf)) .leaf),2,G⟩))):=by kernel_rfl
noncomputable def HPp (g:Nat→List UInt8) (z:Nat):AHeap:=⟨(.node .leaf (some (.cells (.fn fun c=>some (es g c)) z 9 0 0 1 0 false .leaf)) .leaf),1,GW⟩
noncomputable def HPb (g:Nat→List UInt8) (z:Nat) (f:Nat→Dg) (zd:Nat):AHeap:=⟨(.node (.node .leaf (some (.cells (.fn fun c=>some (el f c)) zd 35 0 0 1 0 false .leaf)) .leaf) (some (.cells (.fn fun c=>some (es g c)) z 9 0 0 1 0 false .leaf)) .leaf),2,GW⟩
theorem zf6 (p:List UInt8)(h:p.length<1000000):Goal P 0 49 (fun x _=>x=.str (zR p)) (zb P 49 [.str [],.str p] GW):=by
 have:=zoG [] p (by show 0+_+9<_; omega)
 rw [zmA _ h,List.nil_append] at this
 exact this
theorem zkB (n:Int)(t:List UInt8)(h:t.length<1000000):Goal P 0 49 (fun x _=>x=.str (row n++zR t)) (zb P 49 [.str (row n),.str t] GW):=by
 have hr:=zh n
 have:=zoG (row n) t (by omega)
 rw [zmA _ h,List.append_assoc] at this
 exact this
theorem zgd (g:Nat→List UInt8)(i:Nat):es g (0+((i:Nat):Int).toNat*1)=AV.str (g i):=by
 rw [Int.toNat_natCast,Nat.zero_add,Nat.mul_one]
 rfl
theorem aw_p {q z:Nat}{g:Nat→List UInt8}(hz:q*1≤z){n nu:Int}(v0:0≤nu)(v1:nu≤18446744073709551615){t:List UInt8}{S:List UInt8}(hq:q≤100000)(hS:S.length≤100000000)(hb:∀ j,j<q→(g j).length<1000000)(he:(xi []).length<1000000) :
 ∀ r i (s:List UInt8) L N,i+r=q→L=s.length→N=s.length→0<s.length→s++(sl g i r).flatMap zR++(zR (xi [])++row nu)=S →
  Goal P 1 30 (fun v h=>v=.str S∧h=HPp g z) (AwP (es g) s t n nu (i:Int) q z L N GW)
 | 0,i,s,L,N,hi,hL,hN,h0,hs=>by
  obtain rfl:q=i:=by omega
  subst hL hN
  have hlen:=congrArg List.length hs
  have hs':s++(zR (xi [])++row nu)=S:=by rw [← hs]; show _=s++[]++_; rw [List.append_nil]
  have hp:=zJ nu
  rw [← hs'] at hS ⊢
  simp only [List.length_append] at hS
  obtain ⟨r0,hr0⟩:∃ r0,s.length+(zR (xi [])++row nu).length=r0+1:=⟨s.length+(zR (xi [])++row nu).length - 1,by simp only [List.length_append]; omega⟩
  have h4:(zR (xi [])++row nu).length=(zR (xi [])).length+(row nu).length:=List.length_append
  have h5:(s++(zR (xi [])++row nu)).length=s.length+(zR (xi [])++row nu).length:=List.length_append
  exact (og (awpe _ (es g) _ _ (xi []) _ _ _ (zR (xi [])) (zR (xi [])++row nu) (q) (z) _ _ GW _).symm ⟨decide_eq_false (by omega),zeP,rfl,zf6 _ he,rfl,zcD _ _ v0 v1 (by omega),⟨Nat.le_refl _,by omega,by omega,by omega,by omega,room _ (by omega),by omega⟩,wg s _ _ rfl rfl,by rw [List.length_append]; omega,zn _,xM _,(og (awzp _ (es g) _ (z) _ _ (r0) GW _).symm ⟨by rw [hr0],⟨by omega,by omega,by rw [Int.toNat_natCast]; omega,by kernel_rfl,vp _ _ (by rw [Int.toNat_natCast]; simp only [List.length_append])⟩,zn _,rfl,rfl⟩)⟩)
 | r+1,i,s,L,N,hi,hL,hN,h0,hs=>by
  subst hL hN
  rw [jb,List.flatMap_cons] at hs
  have hlen:=congrArg List.length hs
  simp only [List.length_append] at hlen
  have hp:0<(zR (g i)).length:=by unfold zR; rw [List.length_append]; have:=zJ ((g i).length:Nat); omega
  have ih:=aw_p hz v0 v1 (t:=t) (n:=n) hq hS hb he r (i+1) (s++zR (g i)) (s.length+(zR (g i)).length) (s++zR (g i)).length (by omega) (by rw [List.length_append]) rfl (by rw [List.length_append]; omega) (by rw [← hs]; simp only [List.append_assoc])
  exact (og (awpl _ (es g) _ _ (g i) _ _ _ (zR (g i)) (q) (z) _ _ GW _).symm ⟨decide_eq_true (by omega),⟨by omega,by omega⟩,by rw [Int.toNat_natCast]; omega,zgd g i,zf6 _ (hb i (by omega)),⟨Nat.le_refl _,by omega,by omega,by omega,by omega,room _ (by omega),by omega⟩,wg s _ _ rfl rfl,by rw [List.length_append]; omega,zn _,xM _,by rw [up1 i (by omega)]; exact ih⟩)
theorem aw_b {m zd:Nat}{f:Nat→Dg}(hm:m<100000)(hzd:m*3≤zd){l:List Dg}(hl:So (sl f 0 m) l){q z:Nat}{g:Nat→List UInt8}(hz:q*1≤z){n nu:Int}(v0:0≤nu)(v1:nu≤18446744073709551615){t:List UInt8}{S:List UInt8}(hq:q≤100000)(hS:S.length≤100000000)(hb:∀ j,j<q→(g j).length<1000000)(he:(xi l).length<1000000) :
 ∀ r i (s:List UInt8) L N,i+r=q→L=s.length→N=s.length→0<s.length→s++(sl g i r).flatMap zR++(zR (xi l)++row nu)=S →
  Goal P 2 30 (fun v h=>v=.str S∧h=HPb g z f zd) (AwB (es g) (el f) s t n nu (i:Int) m q z zd L N GW)
 | 0,i,s,L,N,hi,hL,hN,h0,hs=>by
  obtain rfl:q=i:=by omega
  subst hL hN
  have hlen:=congrArg List.length hs
  have hs':s++(zR (xi l)++row nu)=S:=by rw [← hs]; show _=s++[]++_; rw [List.append_nil]
  have hp:=zJ nu
  rw [← hs'] at hS ⊢
  simp only [List.length_append] at hS
  obtain ⟨r0,hr0⟩:∃ r0,s.length+(zR (xi l)++row nu).length=r0+1:=⟨s.length+(zR (xi l)++row nu).length - 1,by simp only [List.length_append]; omega⟩
  have h4:(zR (xi l)++row nu).length=(zR (xi l)).length+(row nu).length:=List.length_append
  have h5:(s++(zR (xi l)++row nu)).length=s.length+(zR (xi l)++row nu).length:=List.length_append
  exact (og (awbe _ (es g) (el f) _ _ (xi l) _ _ _ (zR (xi l)) (zR (xi l)++row nu) (m) (q) (z) (zd) _ _ GW _).symm ⟨decide_eq_false (by omega),ze _,ze _,zeA (off:=0) (cp:=0) hzd hm hl,rfl,zf6 _ he,rfl,zcD _ _ v0 v1 (by omega),⟨Nat.le_refl _,by omega,by omega,by omega,by omega,room _ (by omega),by omega⟩,wg s _ _ rfl rfl,by rw [List.length_append]; omega,zn _,ze _,xM _,(og (awzb _ (es g) (el f) _ (z) (zd) _ _ (r0) GW _).symm ⟨by rw [hr0],⟨by omega,by omega,by rw [Int.toNat_natCast]; omega,by kernel_rfl,vp _ _ (by rw [Int.toNat_natCast]; simp only [List.length_append])⟩,zn _,ze _,rfl,rfl⟩)⟩)
 | r+1,i,s,L,N,hi,hL,hN,h0,hs=>by
  subst hL hN
  rw [jb,List.flatMap_cons] at hs
  have hlen:=congrArg List.length hs
  simp only [List.length_append] at hlen
  have hp:0<(zR (g i)).length:=by unfold zR; rw [List.length_append]; have:=zJ ((g i).length:Nat); omega
  have ih:=aw_b hm hzd hl hz v0 v1 (t:=t) (n:=n) hq hS hb he r (i+1) (s++zR (g i)) (s.length+(zR (g i)).length) (s++zR (g i)).length (by omega) (by rw [List.length_append]) rfl (by rw [List.length_append]; omega) (by rw [← hs]; simp only [List.append_assoc])
  exact (og (awbl _ (es g) (el f) _ _ (g i) _ _ _ (zR (g i)) (m) (q) (z) (zd) _ _ GW _).symm ⟨decide_eq_true (by omega),⟨by omega,by omega⟩,by rw [Int.toNat_natCast]; omega,zgd g i,zf6 _ (hb i (by omega)),⟨Nat.le_refl _,by omega,by omega,by omega,by omega,room _ (by omega),by omega⟩,wg s _ _ rfl rfl,by rw [List.length_append]; omega,zn _,ze _,xM _,by rw [up1 i (by omega)]; exact ih⟩)
theorem zlp {n nu:Int}(n0:0≤n)(n1:n≤14)(v0:0≤nu)(v1:nu≤18446744073709551615){t:List UInt8}(ht:t.length<1000000)(he:(xi []).length<1000000)(hF:(wP n t [] [] nu).length≤100000000) :
 Goal P 0 30 (fun v h=>v=.str (wP n t [] [] nu)∧h=⟨.leaf,0,GW⟩) (zb P 30 [.agg [.int .i64 n,.str t,.nils 0 0,.nils 0 0,.int .u64 nu]] GW):=by
 have w:IntKind.u64.wrap n=n:=IntWalk.u64_in _ (by omega)
 have g48:=zcD [] n (by omega) (by omega) (by show 0+9<_; omega)
 rw [List.nil_append] at g48
 have hr:=zh n
 have g49:=zkB n t ht
 have hpn:=zJ n
 have hlt:(row n++zR t).length=(row n).length+(row (t.length:Nat)).length+t.length:=by unfold zR; simp only [List.length_append]; omega
 have hrt:=zh (t.length:Nat)
 have w2:IntKind.u64.wrap ((0:Nat):Int)=((0:Nat):Int):=IntWalk.u64_in _ (by omega)
 have gq:=zcD [] ((0:Nat):Int) (by omega) (by omega) (by show 0+9<_; omega)
 rw [List.nil_append] at gq
 have hrq:=zh ((0:Nat):Int)
 have hpq:=zJ ((0:Nat):Int)
 have e:row n++zR t++row ((0:Nat):Int)++(zR (xi [])++row nu)=wP n t [] [] nu:=by
  unfold wP zR
  show _=row n++(row (t.length:Nat)++(t++(row ((0:Nat):Int)++([]++_))))
  simp only [List.append_assoc,List.nil_append]
 have hp:=zJ nu
 have h4:(zR (xi [])++row nu).length=(zR (xi [])).length+(row nu).length:=List.length_append
 have h5:(row n++zR t++row ((0:Nat):Int)).length=(row n++zR t).length+(row ((0:Nat):Int)).length:=List.length_append
 rw [← e] at hF ⊢
 have h6:(row n++zR t++row ((0:Nat):Int)++(zR (xi [])++row nu)).length=(row n++zR t++row ((0:Nat):Int)).length+(zR (xi [])++row nu).length:=List.length_append
 obtain ⟨r0,hr0⟩:∃ r0,(row n++zR t).length+(row ((0:Nat):Int)).length+(zR (xi [])++row nu).length=r0+1:=⟨(row n++zR t).length+(row ((0:Nat):Int)).length+(zR (xi [])++row nu).length - 1,by omega⟩
 exact (og (awne _ _ (row n) (row n++zR t) (row ((0:Nat):Int)) (xi []) _ _ (zR (xi [])) (zR (xi [])++row nu) GW _).symm ⟨decide_eq_false (by omega),decide_eq_false (by omega),by rw [w]; exact g48,rfl,g49,⟨Nat.le_refl _,by omega,room _ (by omega)⟩,gq,⟨Nat.le_refl _,by omega,by omega,by omega,by omega,room _ (by omega),by omega⟩,wg _ _ _ rfl rfl,by rw [List.length_append]; omega,xM _,zeP,rfl,zf6 _ he,rfl,zcD _ _ v0 v1 (by omega),⟨Nat.le_refl _,by omega,by omega,by omega,by omega,room _ (by omega),by omega⟩,wg _ _ _ (by simp only [List.length_append]) rfl,by rw [List.length_append]; omega,xM _,(og (awzn _ _ _ _ (r0) GW _).symm ⟨by rw [hr0],⟨by omega,by omega,by rw [Int.toNat_natCast]; omega,by kernel_rfl,vp _ _ (by rw [Int.toNat_natCast]; simp only [List.length_append])⟩,rfl,rfl⟩)⟩)
theorem zjP {n nu:Int}(h:n<0){t:List UInt8}:Goal P 0 30 (fun v h=>v=.str []∧h=⟨.leaf,0,GW⟩) (zb P 30 [.agg [.int .i64 n,.str t,.nils 0 0,.nils 0 0,.int .u64 nu]] GW) :=
 (og (awnx _ _ _ _ GW _).symm ⟨decide_eq_true h,rfl,rfl⟩)
theorem zjI {n nu:Int}(h0:0≤n)(h:14<n){t:List UInt8}:Goal P 0 30 (fun v h=>v=.str []∧h=⟨.leaf,0,GW⟩) (zb P 30 [.agg [.int .i64 n,.str t,.nils 0 0,.nils 0 0,.int .u64 nu]] GW) :=
 (og (awny _ _ _ _ GW _).symm ⟨decide_eq_false (by omega),decide_eq_true h,rfl,rfl⟩)
theorem zfm {m zd:Nat}{f:Nat→Dg}(hm:m<100000)(hzd:m*3≤zd){l:List Dg}(hl:So (sl f 0 m) l){n nu:Int}(n0:0≤n)(n1:n≤14)(v0:0≤nu)(v1:nu≤18446744073709551615){t:List UInt8}(ht:t.length<1000000)(he:(xi l).length<1000000)(hF:(wP n t [] l nu).length≤100000000) :
 Goal P 1 30 (fun v h=>v=.str (wP n t [] l nu)∧h=HCo f 0 zd) (zf P 30 [.agg [.int .i64 n,.str t,.nils 0 0,.slg 0 0 0 m 0,.int .u64 nu]] (HCo f 0 zd)):=by
 have w:IntKind.u64.wrap n=n:=IntWalk.u64_in _ (by omega)
 have g48:=zcD [] n (by omega) (by omega) (by show 0+9<_; omega)
 rw [List.nil_append] at g48
 have hr:=zh n
 have g49:=zkB n t ht
 have hpn:=zJ n
 have hlt:(row n++zR t).length=(row n).length+(row (t.length:Nat)).length+t.length:=by unfold zR; simp only [List.length_append]; omega
 have hrt:=zh (t.length:Nat)
 have w2:IntKind.u64.wrap ((0:Nat):Int)=((0:Nat):Int):=IntWalk.u64_in _ (by omega)
 have gq:=zcD [] ((0:Nat):Int) (by omega) (by omega) (by show 0+9<_; omega)
 rw [List.nil_append] at gq
 have hrq:=zh ((0:Nat):Int)
 have hpq:=zJ ((0:Nat):Int)
 have e:row n++zR t++row ((0:Nat):Int)++(zR (xi l)++row nu)=wP n t [] l nu:=by
  unfold wP zR
  show _=row n++(row (t.length:Nat)++(t++(row ((0:Nat):Int)++([]++_))))
  simp only [List.append_assoc,List.nil_append]
 have hp:=zJ nu
 have h4:(zR (xi l)++row nu).length=(zR (xi l)).length+(row nu).length:=List.length_append
 have h5:(row n++zR t++row ((0:Nat):Int)).length=(row n++zR t).length+(row ((0:Nat):Int)).length:=List.length_append
 rw [← e] at hF ⊢
 have h6:(row n++zR t++row ((0:Nat):Int)++(zR (xi l)++row nu)).length=(row n++zR t++row ((0:Nat):Int)).length+(zR (xi l)++row nu).length:=List.length_append
 obtain ⟨r0,hr0⟩:∃ r0,(row n++zR t).length+(row ((0:Nat):Int)).length+(zR (xi l)++row nu).length=r0+1:=⟨(row n++zR t).length+(row ((0:Nat):Int)).length+(zR (xi l)++row nu).length - 1,by omega⟩
 exact (og (awde _ (el f) _ (row n) (row n++zR t) (row ((0:Nat):Int)) (xi l) _ _ (zR (xi l)) (zR (xi l)++row nu) (m) (zd) GW _).symm ⟨decide_eq_false (by omega),decide_eq_false (by omega),by rw [w]; exact g48,rfl,g49,⟨Nat.le_refl _,by omega,room _ (by omega)⟩,gq,⟨Nat.le_refl _,by omega,by omega,by omega,by omega,room _ (by omega),by omega⟩,wg _ _ _ rfl rfl,by rw [List.length_append]; omega,ze _,xM _,ze _,ze _,zeA (off:=0) (cp:=0) hzd hm hl,rfl,zf6 _ he,rfl,zcD _ _ v0 v1 (by omega),⟨Nat.le_refl _,by omega,by omega,by omega,by omega,room _ (by omega),by omega⟩,wg _ _ _ (by simp only [List.length_append]) rfl,by rw [List.length_append]; omega,ze _,xM _,(og (awzd _ (el f) _ (zd) _ _ (r0) GW _).symm ⟨by rw [hr0],⟨by omega,by omega,by rw [Int.toNat_natCast]; omega,by kernel_rfl,vp _ _ (by rw [Int.toNat_natCast]; simp only [List.length_append])⟩,ze _,rfl,rfl⟩)⟩)
theorem zjr {m zd:Nat}{f:Nat→Dg}{n nu:Int}(h:n<0){t:List UInt8}:Goal P 1 30 (fun v h=>v=.str []∧h=HCo f 0 zd) (zf P 30 [.agg [.int .i64 n,.str t,.nils 0 0,.slg 0 0 0 m 0,.int .u64 nu]] (HCo f 0 zd)) :=
 (og (awdx _ (el f) _ _ _ (m) (zd) GW _).symm ⟨decide_eq_true h,ze _,rfl,rfl⟩)
theorem zhK {m zd:Nat}{f:Nat→Dg}{n nu:Int}(h0:0≤n)(h:14<n){t:List UInt8}:Goal P 1 30 (fun v h=>v=.str []∧h=HCo f 0 zd) (zf P 30 [.agg [.int .i64 n,.str t,.nils 0 0,.slg 0 0 0 m 0,.int .u64 nu]] (HCo f 0 zd)) :=
 (og (awdy _ (el f) _ _ _ (m) (zd) GW _).symm ⟨decide_eq_false (by omega),decide_eq_true h,ze _,rfl,rfl⟩)
theorem zkM {q z:Nat}{g:Nat→List UInt8}(hz:q*1≤z)(hq:q≤100000)(hb:∀ j,j<q→(g j).length<1000000){n nu:Int}(n0:0≤n)(n1:n≤14)(v0:0≤nu)(v1:nu≤18446744073709551615){t:List UInt8}(ht:t.length<1000000)(he:(xi []).length<1000000)(hF:(wP n t (sl g 0 q) [] nu).length≤100000000) :
 Goal P 1 30 (fun v h=>v=.str (wP n t (sl g 0 q) [] nu)∧h=HPp g z) (zf P 30 [.agg [.int .i64 n,.str t,.slg 0 0 0 q 0,.nils 0 0,.int .u64 nu]] (HPp g z)):=by
 have w:IntKind.u64.wrap n=n:=IntWalk.u64_in _ (by omega)
 have g48:=zcD [] n (by omega) (by omega) (by show 0+9<_; omega)
 rw [List.nil_append] at g48
 have hr:=zh n
 have g49:=zkB n t ht
 have hpn:=zJ n
 have hlt:(row n++zR t).length=(row n).length+(row (t.length:Nat)).length+t.length:=by unfold zR; simp only [List.length_append]; omega
 have hrt:=zh (t.length:Nat)
 have w2:IntKind.u64.wrap ((q:Nat):Int)=((q:Nat):Int):=IntWalk.u64_in _ (by omega)
 have gq:=zcD [] ((q:Nat):Int) (by omega) (by omega) (by show 0+9<_; omega)
 rw [List.nil_append] at gq
 have hrq:=zh ((q:Nat):Int)
 have hpq:=zJ ((q:Nat):Int)
 have hS:=hF
 have e:row n++zR t++row ((q:Nat):Int)++(sl g 0 q).flatMap zR++(zR (xi [])++row nu)=wP n t (sl g 0 q) [] nu:=by
  unfold wP zR
  rw [xl]
  simp only [List.append_assoc]
 exact (og (awps _ (es g) _ (row n) (row n++zR t) (row ((q:Nat):Int)) _ _ (q) (z) GW _).symm ⟨decide_eq_false (by omega),decide_eq_false (by omega),by rw [w]; exact g48,rfl,g49,⟨Nat.le_refl _,by omega,room _ (by omega)⟩,by rw [w2]; exact gq,⟨Nat.le_refl _,by omega,by omega,by omega,by omega,room _ (by omega),by omega⟩,wg _ _ _ rfl rfl,by rw [List.length_append]; omega,zn _,xM _,aw_p hz v0 v1 hq hF hb he q 0 _ _ _ (by omega) (by simp only [List.length_append]) rfl (by simp only [List.length_append]; omega) e⟩)
theorem zhc {q z:Nat}{g:Nat→List UInt8}{n nu:Int}(h:n<0){t:List UInt8}:Goal P 1 30 (fun v h=>v=.str []∧h=HPp g z) (zf P 30 [.agg [.int .i64 n,.str t,.slg 0 0 0 q 0,.nils 0 0,.int .u64 nu]] (HPp g z)) :=
 (og (awpx _ (es g) _ _ _ (q) (z) GW _).symm ⟨decide_eq_true h,zn _,rfl,rfl⟩)
theorem zij {q z:Nat}{g:Nat→List UInt8}{n nu:Int}(h0:0≤n)(h:14<n){t:List UInt8}:Goal P 1 30 (fun v h=>v=.str []∧h=HPp g z) (zf P 30 [.agg [.int .i64 n,.str t,.slg 0 0 0 q 0,.nils 0 0,.int .u64 nu]] (HPp g z)) :=
 (og (awpy _ (es g) _ _ _ (q) (z) GW _).symm ⟨decide_eq_false (by omega),decide_eq_true h,zn _,rfl,rfl⟩)
theorem zf4 {m zd:Nat}{f:Nat→Dg}(hm:m<100000)(hzd:m*3≤zd){l:List Dg}(hl:So (sl f 0 m) l){q z:Nat}{g:Nat→List UInt8}(hz:q*1≤z)(hq:q≤100000)(hb:∀ j,j<q→(g j).length<1000000){n nu:Int}(n0:0≤n)(n1:n≤14)(v0:0≤nu)(v1:nu≤18446744073709551615){t:List UInt8}(ht:t.length<1000000)(he:(xi l).length<1000000)(hF:(wP n t (sl g 0 q) l nu).length≤100000000) :
 Goal P 2 30 (fun v h=>v=.str (wP n t (sl g 0 q) l nu)∧h=HPb g z f zd) (zf P 30 [.agg [.int .i64 n,.str t,.slg 0 0 0 q 0,.slg 1 0 0 m 0,.int .u64 nu]] (HPb g z f zd)):=by
 have w:IntKind.u64.wrap n=n:=IntWalk.u64_in _ (by omega)
 have g48:=zcD [] n (by omega) (by omega) (by show 0+9<_; omega)
 rw [List.nil_append] at g48
 have hr:=zh n
 have g49:=zkB n t ht
 have hpn:=zJ n
 have hlt:(row n++zR t).length=(row n).length+(row (t.length:Nat)).length+t.length:=by unfold zR; simp only [List.length_append]; omega
 have hrt:=zh (t.length:Nat)
 have w2:IntKind.u64.wrap ((q:Nat):Int)=((q:Nat):Int):=IntWalk.u64_in _ (by omega)
 have gq:=zcD [] ((q:Nat):Int) (by omega) (by omega) (by show 0+9<_; omega)
 rw [List.nil_append] at gq
 have hrq:=zh ((q:Nat):Int)
 have hpq:=zJ ((q:Nat):Int)
 have hS:=hF
 have e:row n++zR t++row ((q:Nat):Int)++(sl g 0 q).flatMap zR++(zR (xi l)++row nu)=wP n t (sl g 0 q) l nu:=by
  unfold wP zR
  rw [xl]
  simp only [List.append_assoc]
 exact (og (awbs _ (es g) (el f) _ (row n) (row n++zR t) (row ((q:Nat):Int)) _ _ (m) (q) (z) (zd) GW _).symm ⟨decide_eq_false (by omega),decide_eq_false (by omega),by rw [w]; exact g48,rfl,g49,⟨Nat.le_refl _,by omega,room _ (by omega)⟩,by rw [w2]; exact gq,⟨Nat.le_refl _,by omega,by omega,by omega,by omega,room _ (by omega),by omega⟩,wg _ _ _ rfl rfl,by rw [List.length_append]; omega,zn _,ze _,xM _,aw_b hm hzd hl hz v0 v1 hq hF hb he q 0 _ _ _ (by omega) (by simp only [List.length_append]) rfl (by simp only [List.length_append]; omega) e⟩)
theorem zi2 {m zd:Nat}{f:Nat→Dg}{q z:Nat}{g:Nat→List UInt8}{n nu:Int}(h:n<0){t:List UInt8}:Goal P 2 30 (fun v h=>v=.str []∧h=HPb g z f zd) (zf P 30 [.agg [.int .i64 n,.str t,.slg 0 0 0 q 0,.slg 1 0 0 m 0,.int .u64 nu]] (HPb g z f zd)) :=
 (og (awbx _ (es g) (el f) _ _ _ (m) (q) (z) (zd) GW _).symm ⟨decide_eq_true h,zn _,ze _,rfl,rfl⟩)
theorem zhm {m zd:Nat}{f:Nat→Dg}{q z:Nat}{g:Nat→List UInt8}{n nu:Int}(h0:0≤n)(h:14<n){t:List UInt8}:Goal P 2 30 (fun v h=>v=.str []∧h=HPb g z f zd) (zf P 30 [.agg [.int .i64 n,.str t,.slg 0 0 0 q 0,.slg 1 0 0 m 0,.int .u64 nu]] (HPb g z f zd)) :=
 (og (awby _ (es g) (el f) _ _ _ (m) (q) (z) (zd) GW _).symm ⟨decide_eq_false (by omega),decide_eq_true h,zn _,ze _,rfl,rfl⟩)
end Go.Proofs.YtdbfpjgnlfejmaaDoor.dg
end
section
set_option maxRecDepth 100000
set_option linter.unusedVariables false
namespace Go.Proofs.YtdbfpjgnlfejmaaDoor.dg
open Go Ev mq
section
variable {off z m cp:Nat} {f:Nat→Dg} {tn:Int}
theorem get_one (c:Nat→AV)(hc:∀ k,(c k).one=true)(o q:Nat):∀ k,k<q→∃ v,(T.fn fun c'=>some (c c')).get (o+k)=some v∧v.one=true:=fun k _=>⟨c (o+k),rfl,hc _⟩
end
end Go.Proofs.YtdbfpjgnlfejmaaDoor.dg
end
section
set_option maxRecDepth 100000
set_option linter.unusedVariables false
namespace Go.Proofs.YtdbfpjgnlfejmaaDoor.dg
open Go Ev mq
noncomputable def RsA (cell:Nat→AV) (i:Int) (n z:Nat) (G:T (T AV)):AM:=⟨⟨13,69,(.node (.node (.node .leaf (some (.nils 0 0)) .leaf) none .leaf) (some (.slg 0 0 0 n 0)) (.node (.node .leaf (some (.int .i64 i)) .leaf) none .leaf)),
 [.code (cd P (13:Nat) [(1:Nat),(1:Nat),(0:Nat),(1:Nat),(0:Nat),(0:Nat)]),.inLoop (cd P (13:Nat) [(1:Nat),(1:Nat),(0:Nat),(1:Nat),(0:Nat),(0:Nat)]),.inBlock 0,.code (cd P (13:Nat) [(1:Nat),(1:Nat),(1:Nat)])],[],.run,CallKind.normal,none⟩,
 [],
 ⟨(.node .leaf (some (.cells (.fn fun c=>some (cell c)) z 35 0 0 1 0 false .leaf)) .leaf),1,G⟩⟩
noncomputable def Ls (p q:List UInt8) (i:Int) (G:T (T AV)):AM:=⟨⟨72,37,(.node (.node .leaf (some (.str q)) (.node .leaf (some (.int .i64 i)) .leaf)) (some (.str p)) .leaf),
 [.code (cd P (72:Nat) [(1:Nat),(0:Nat),(1:Nat),(0:Nat),(0:Nat)]),.inLoop (cd P (72:Nat) [(1:Nat),(0:Nat),(1:Nat),(0:Nat),(0:Nat)]),.inBlock 0,.code (cd P (72:Nat) [(1:Nat),(1:Nat)])],[],.run,CallKind.normal,none⟩,
 [],
 ⟨.leaf,0,G⟩⟩
theorem rs (R:AV→AHeap→Prop)(cell cell' cell2 cell3:Nat→AV)(p q:List UInt8)(a c e g i:Int)(u n m z y y2 cp off:Nat)(b b2 b3:Bool)(G:T (T AV))(K:AM→Prop):Obl P 13 (fun v h=>R v h) 1 K [.run 15,.can 1 [0] [0,3,4] []] ((zf P 13 [.slg 0 0 0 n 0] ⟨(.node .leaf (some (.cells (.fn fun c=>some (cell c)) z 35 0 0 1 0 false .leaf)) .leaf),1,G⟩))=((za fun c=>some (cell c))∧K (RsA cell (Int.ofNat 0) n z G)):=by kernel_rfl
theorem lq (R:AV→AHeap→Prop)(cell cell' cell2 cell3:Nat→AV)(p q s w t v2:List UInt8)(a c e g i:Int)(u n m cp z y y2 lo off k:Nat)(b b2 b3:Bool)(G:T (T AV))(K:AM→Prop):Obl P 72 (fun v h=>R v h) 0 K [.run 11,.can 0 [] [0,1,5] []] ((zb P 72 [.str p,.str q] G))=(K (Ls p q (Int.ofNat 0) G)):=by kernel_rfl
theorem sn (R:AV→AHeap→Prop)(cell cell' cell2 cell3:Nat→AV)(p q s w t v2:List UInt8)(a c e g i:Int)(u n m cp z y y2 lo off k:Nat)(b b2 b3:Bool)(G:T (T AV))(_K:AM→Prop):Obl P 11 (fun v h=>R v h) 0 _K [.run 37,.can 0 [] [4] [],.done] ((zf P 11 [.nils 0 0,.nils 0 0] ⟨.leaf,0,G⟩))=((R (.bool true) (⟨.leaf,0,G⟩))):=by kernel_rfl
theorem en (R:AV→AHeap→Prop)(cell cell' cell2 cell3:Nat→AV)(p q s w t v2:List UInt8)(a c e g i:Int)(u n m cp z y y2 lo off k:Nat)(b b2 b3:Bool)(G:T (T AV))(_K:AM→Prop):Obl P 15 (fun v h=>R v h) 0 _K [.run 8,(.callh [] [0] (.nils 0 0) ⟨.leaf,0,G⟩),.run 8,(.callv [0,1] (.str w)),.run 25,.can 0 [] [2] [],.done] ((zf P 15 [.nils 0 0] ⟨.leaf,0,G⟩))=((Goal P 0 13 (fun x k=>x=AV.nils 0 0∧k={ objs:=T.leaf,next:=0,glob:=G }) (zb P 13 [.nils 0 0] G))∧(Goal P 0 51 (fun x x_1=>x=AV.str w) (zb P 51 [.str [],.int .u64 0] G))∧(R (.str w) (⟨.leaf,0,G⟩))):=by kernel_rfl
instance (x y:Dg):Decidable (Lt x y):=inferInstanceAs (Decidable (_∨_))
def SoD (f:Nat→Dg) (n z:Nat) (m:AM):Prop :=
 (So (sl f 0 n) []∧Goal P 1 13 (fun v h=>v=.nils 0 0∧h=HCo f 0 z) m) ∨
  ∃ f' k y,0<k∧k≤n∧k*3≤y∧So (sl f 0 n) (sl f' 0 k)∧Goal P 1 13 (fun v h=>v=.slg 1 0 0 k 0∧h=HCw f f' 0 z y) m
theorem SoD.of {f:Nat→Dg}{n z:Nat}{m m':AM}(h:SoD f n z m)(k:∀ R:AV→AHeap→Prop,Goal P 1 13 R m→Goal P 1 13 R m'):SoD f n z m':=by
 rcases h with ⟨h1,h2⟩ | ⟨f',k',y',h1,h2,h3,h4,h5⟩
 · exact .inl ⟨h1,k _ h2⟩
 · exact .inr ⟨f',k',y',h1,h2,h3,h4,k _ h5⟩
section
variable {z n:Nat} {f:Nat→Dg}
end
end Go.Proofs.YtdbfpjgnlfejmaaDoor.dg
end
section
set_option maxRecDepth 100000
namespace Go.Proofs.YtdbfpjgnlfejmaaDoor.mq
open Go Ev
def zeU (A B C:Nat) (a b c:List UInt8):Int :=
 if (A=0∧a.length≠0)∨(B=0∧b.length≠0)∨(C=0∧c.length≠0) then 2 else if a.length > A∨b.length > B∨c.length > C then 3 else 0
def limA (k:Int):Nat:=if k=1 then 0 else 64
def limB (k:Int):Nat:=if k=3∨k=4∨k=5∨k=6∨k=9 then 200 else 0
def limC (k:Int):Nat:=if k=1∨k=3∨k=5∨k=9 then 5000 else 0
def chk (k:Int) (a b c:List UInt8):Int:=if k<1∨9<k then 2 else zeU (limA k) (limB k) (limC k) a b c
theorem zaO {A B C:Nat}{a b c:List UInt8}(h:(A=0∧a.length≠0)∨(B=0∧b.length≠0)∨(C=0∧c.length≠0)):zeU A B C a b c=2:=if_pos h
theorem zW {A B C:Nat}{a b c:List UInt8}(h:¬((A=0∧a.length≠0)∨(B=0∧b.length≠0)∨(C=0∧c.length≠0)))(h3:a.length > A∨b.length > B∨c.length > C):zeU A B C a b c=3:=by
 unfold zeU
 rw [if_neg h,if_pos h3]
theorem wY {A B C:Nat}{a b c:List UInt8}(h:¬((A=0∧a.length≠0)∨(B=0∧b.length≠0)∨(C=0∧c.length≠0)))(h3:¬(a.length > A∨b.length > B∨c.length > C)):zeU A B C a b c=0:=by
 unfold zeU
 rw [if_neg h,if_neg h3]
theorem neT {a:List UInt8}(h:(!a==([]:List UInt8))=true):a.length≠0:=by
 rintro e
 rw [List.length_eq_zero_iff.1 e] at h
 cases h
theorem neF {a:List UInt8}(h:(!a==([]:List UInt8))=false):a.length=0:=by
 cases a with
 | nil=>rfl
 | cons x r=>cases h
end Go.Proofs.YtdbfpjgnlfejmaaDoor.mq
end
section
set_option maxRecDepth 100000
set_option linter.unusedVariables false
namespace Go.Proofs.YtdbfpjgnlfejmaaDoor.mq
open Go Ev
theorem G6 {r:Int}{cmds:List Cmd}{M:AM}{A:Prop}(e:Obl P 64 (fun v _=>v=AV.int .i64 r) 0 (fun _=>False) cmds M=A)(h:A):Goal P 0 64 (fun v _=>v=.int .i64 r) M:=(oh e.symm h)
theorem x2 {r:Int}(h:r=2):AV.int .i64 2=.int .i64 r:=h▸rfl
theorem x3 {r:Int}(h:r=3):AV.int .i64 3=.int .i64 r:=h▸rfl
section
variable {R:AV→Prop} {a b c:List UInt8} {_K:AM→Prop} {k:Int} (hk:k=1)
include hk
theorem ck1y:Obl P 64 (fun v _=>R v) 0 _K [.run 248,.know 7 true,.run 34,.done] ((zb P 64 [.agg [.int .i64 k,.str a,.str b,.str c]] GW))=(((!a==([]:List UInt8))=true)∧(R (.int .i64 2))):=by subst hk; kernel_rfl
theorem ck1ny:Obl P 64 (fun v _=>R v) 0 _K [.run 248,.know 7 false,.run 49,.know 7 true,.run 34,.done] ((zb P 64 [.agg [.int .i64 k,.str a,.str b,.str c]] GW))=(((!a==([]:List UInt8))=false)∧((!b==([]:List UInt8))=true)∧(R (.int .i64 2))):=by subst hk; kernel_rfl
theorem zm5:Obl P 64 (fun v _=>R v) 0 _K [.run 248,.know 7 false,.run 49,.know 7 false,.run 49,.know 7 true,.run 133,.know 18 true,.run 26,.done] ((zb P 64 [.agg [.int .i64 k,.str a,.str b,.str c]] GW))=(((!a==([]:List UInt8))=false)∧((!b==([]:List UInt8))=false)∧((!c==([]:List UInt8))=true)∧(decide ((↑a.length:Int) > (0:Int))=true)∧(R (.int .i64 3))):=by subst hk; kernel_rfl
theorem zky:Obl P 64 (fun v _=>R v) 0 _K [.run 248,.know 7 false,.run 49,.know 7 false,.run 49,.know 7 true,.run 133,.know 18 false,.run 47,.know 18 true,.run 26,.done] ((zb P 64 [.agg [.int .i64 k,.str a,.str b,.str c]] GW))=(((!a==([]:List UInt8))=false)∧((!b==([]:List UInt8))=false)∧((!c==([]:List UInt8))=true)∧(decide ((↑a.length:Int) > (0:Int))=false)∧(decide ((↑b.length:Int) > (0:Int))=true)∧(R (.int .i64 3))):=by subst hk; kernel_rfl
theorem zj7:Obl P 64 (fun v _=>R v) 0 _K [.run 248,.know 7 false,.run 49,.know 7 false,.run 49,.know 7 true,.run 133,.know 18 false,.run 47,.know 18 false,.run 47,.know 18 true,.run 26,.done] ((zb P 64 [.agg [.int .i64 k,.str a,.str b,.str c]] GW))=(((!a==([]:List UInt8))=false)∧((!b==([]:List UInt8))=false)∧((!c==([]:List UInt8))=true)∧(decide ((↑a.length:Int) > (0:Int))=false)∧(decide ((↑b.length:Int) > (0:Int))=false)∧(decide ((↑c.length:Int) > (5000:Int))=true)∧(R (.int .i64 3))):=by subst hk; kernel_rfl
theorem zjX:Obl P 64 (fun v _=>R v) 0 _K [.run 248,.know 7 false,.run 49,.know 7 false,.run 49,.know 7 true,.run 133,.know 18 false,.run 47,.know 18 false,.run 47,.know 18 false,.run 52,.done] ((zb P 64 [.agg [.int .i64 k,.str a,.str b,.str c]] GW))=(((!a==([]:List UInt8))=false)∧((!b==([]:List UInt8))=false)∧((!c==([]:List UInt8))=true)∧(decide ((↑a.length:Int) > (0:Int))=false)∧(decide ((↑b.length:Int) > (0:Int))=false)∧(decide ((↑c.length:Int) > (5000:Int))=false)∧(R (.int .i64 0))):=by subst hk; kernel_rfl
theorem zns:Obl P 64 (fun v _=>R v) 0 _K [.run 248,.know 7 false,.run 49,.know 7 false,.run 49,.know 7 false,.run 133,.know 18 true,.run 26,.done] ((zb P 64 [.agg [.int .i64 k,.str a,.str b,.str c]] GW))=(((!a==([]:List UInt8))=false)∧((!b==([]:List UInt8))=false)∧((!c==([]:List UInt8))=false)∧(decide ((↑a.length:Int) > (0:Int))=true)∧(R (.int .i64 3))):=by subst hk; kernel_rfl
theorem zlC:Obl P 64 (fun v _=>R v) 0 _K [.run 248,.know 7 false,.run 49,.know 7 false,.run 49,.know 7 false,.run 133,.know 18 false,.run 47,.know 18 true,.run 26,.done] ((zb P 64 [.agg [.int .i64 k,.str a,.str b,.str c]] GW))=(((!a==([]:List UInt8))=false)∧((!b==([]:List UInt8))=false)∧((!c==([]:List UInt8))=false)∧(decide ((↑a.length:Int) > (0:Int))=false)∧(decide ((↑b.length:Int) > (0:Int))=true)∧(R (.int .i64 3))):=by subst hk; kernel_rfl
theorem ziw:Obl P 64 (fun v _=>R v) 0 _K [.run 248,.know 7 false,.run 49,.know 7 false,.run 49,.know 7 false,.run 133,.know 18 false,.run 47,.know 18 false,.run 47,.know 18 true,.run 26,.done] ((zb P 64 [.agg [.int .i64 k,.str a,.str b,.str c]] GW))=(((!a==([]:List UInt8))=false)∧((!b==([]:List UInt8))=false)∧((!c==([]:List UInt8))=false)∧(decide ((↑a.length:Int) > (0:Int))=false)∧(decide ((↑b.length:Int) > (0:Int))=false)∧(decide ((↑c.length:Int) > (5000:Int))=true)∧(R (.int .i64 3))):=by subst hk; kernel_rfl
theorem zg4:Obl P 64 (fun v _=>R v) 0 _K [.run 248,.know 7 false,.run 49,.know 7 false,.run 49,.know 7 false,.run 133,.know 18 false,.run 47,.know 18 false,.run 47,.know 18 false,.run 52,.done] ((zb P 64 [.agg [.int .i64 k,.str a,.str b,.str c]] GW))=(((!a==([]:List UInt8))=false)∧((!b==([]:List UInt8))=false)∧((!c==([]:List UInt8))=false)∧(decide ((↑a.length:Int) > (0:Int))=false)∧(decide ((↑b.length:Int) > (0:Int))=false)∧(decide ((↑c.length:Int) > (5000:Int))=false)∧(R (.int .i64 0))):=by subst hk; kernel_rfl
theorem zms:Goal P 0 64 (fun v _=>v=.int .i64 (zeU 0 0 5000 a b c)) (zb P 64 [.agg [.int .i64 k,.str a,.str b,.str c]] GW):=by
 cases h0:((!a==([]:List UInt8))) with
 | true =>
  have g0:=neT h0; exact G6 (ck1y hk) ⟨h0,x2 (zaO (by omega))⟩
 | false =>
  cases h1:((!b==([]:List UInt8))) with
  | true =>
   have g0:=neF h0; have g1:=neT h1; exact G6 (ck1ny hk) ⟨h0,h1,x2 (zaO (by omega))⟩
  | false =>
   cases h2:((!c==([]:List UInt8))) with
   | true =>
    cases h3:(decide ((↑a.length:Int) > (0:Int))) with
    | true =>
     have g0:=neF h0; have g1:=neF h1; have g2:=neT h2; have g3:=of_decide_eq_true h3; exact G6 (zm5 hk) ⟨h0,h1,h2,h3,x3 (zW (by omega) (by omega))⟩
    | false =>
     cases h4:(decide ((↑b.length:Int) > (0:Int))) with
     | true =>
      have g0:=neF h0; have g1:=neF h1; have g2:=neT h2; have g3:=of_decide_eq_false h3; have g4:=of_decide_eq_true h4; exact G6 (zky hk) ⟨h0,h1,h2,h3,h4,x3 (zW (by omega) (by omega))⟩
     | false =>
      cases h5:(decide ((↑c.length:Int) > (5000:Int))) with
      | true =>
       have g0:=neF h0; have g1:=neF h1; have g2:=neT h2; have g3:=of_decide_eq_false h3; have g4:=of_decide_eq_false h4; have g5:=of_decide_eq_true h5; exact G6 (zj7 hk) ⟨h0,h1,h2,h3,h4,h5,x3 (zW (by omega) (by omega))⟩
      | false =>
       have g0:=neF h0; have g1:=neF h1; have g2:=neT h2; have g3:=of_decide_eq_false h3; have g4:=of_decide_eq_false h4; have g5:=of_decide_eq_false h5; exact G6 (zjX hk) ⟨h0,h1,h2,h3,h4,h5,congrArg (AV.int .i64) (wY (by omega) (by omega)).symm⟩
   | false =>
    cases h3:(decide ((↑a.length:Int) > (0:Int))) with
    | true =>
     have g0:=neF h0; have g1:=neF h1; have g2:=neF h2; have g3:=of_decide_eq_true h3; exact G6 (zns hk) ⟨h0,h1,h2,h3,x3 (zW (by omega) (by omega))⟩
    | false =>
     cases h4:(decide ((↑b.length:Int) > (0:Int))) with
     | true =>
      have g0:=neF h0; have g1:=neF h1; have g2:=neF h2; have g3:=of_decide_eq_false h3; have g4:=of_decide_eq_true h4; exact G6 (zlC hk) ⟨h0,h1,h2,h3,h4,x3 (zW (by omega) (by omega))⟩
     | false =>
      cases h5:(decide ((↑c.length:Int) > (5000:Int))) with
      | true =>
       have g0:=neF h0; have g1:=neF h1; have g2:=neF h2; have g3:=of_decide_eq_false h3; have g4:=of_decide_eq_false h4; have g5:=of_decide_eq_true h5; exact G6 (ziw hk) ⟨h0,h1,h2,h3,h4,h5,x3 (zW (by omega) (by omega))⟩
      | false =>
       have g0:=neF h0; have g1:=neF h1; have g2:=neF h2; have g3:=of_decide_eq_false h3; have g4:=of_decide_eq_false h4; have g5:=of_decide_eq_false h5; exact G6 (zg4 hk) ⟨h0,h1,h2,h3,h4,h5,congrArg (AV.int .i64) (wY (by omega) (by omega)).symm⟩
end
section
variable {R:AV→Prop} {a b c:List UInt8} {_K:AM→Prop} {k:Int} (hk:k=2∨k=7∨k=8)
include hk
theorem ck2yy:Obl P 64 (fun v _=>R v) 0 _K [.run 248,.know 7 true,.run 49,.know 7 true,.run 34,.done] ((zb P 64 [.agg [.int .i64 k,.str a,.str b,.str c]] GW))=(((!a==([]:List UInt8))=true)∧((!b==([]:List UInt8))=true)∧(R (.int .i64 2))):=by rcases hk with rfl | rfl | rfl <;> kernel_rfl
theorem zpt:Obl P 64 (fun v _=>R v) 0 _K [.run 248,.know 7 true,.run 49,.know 7 false,.run 49,.know 7 true,.run 34,.done] ((zb P 64 [.agg [.int .i64 k,.str a,.str b,.str c]] GW))=(((!a==([]:List UInt8))=true)∧((!b==([]:List UInt8))=false)∧((!c==([]:List UInt8))=true)∧(R (.int .i64 2))):=by rcases hk with rfl | rfl | rfl <;> kernel_rfl
theorem znp:Obl P 64 (fun v _=>R v) 0 _K [.run 248,.know 7 true,.run 49,.know 7 false,.run 49,.know 7 false,.run 133,.know 18 true,.run 26,.done] ((zb P 64 [.agg [.int .i64 k,.str a,.str b,.str c]] GW))=(((!a==([]:List UInt8))=true)∧((!b==([]:List UInt8))=false)∧((!c==([]:List UInt8))=false)∧(decide ((↑a.length:Int) > (64:Int))=true)∧(R (.int .i64 3))):=by rcases hk with rfl | rfl | rfl <;> kernel_rfl
theorem zkH:Obl P 64 (fun v _=>R v) 0 _K [.run 248,.know 7 true,.run 49,.know 7 false,.run 49,.know 7 false,.run 133,.know 18 false,.run 47,.know 18 true,.run 26,.done] ((zb P 64 [.agg [.int .i64 k,.str a,.str b,.str c]] GW))=(((!a==([]:List UInt8))=true)∧((!b==([]:List UInt8))=false)∧((!c==([]:List UInt8))=false)∧(decide ((↑a.length:Int) > (64:Int))=false)∧(decide ((↑b.length:Int) > (0:Int))=true)∧(R (.int .i64 3))):=by rcases hk with rfl | rfl | rfl <;> kernel_rfl
theorem zjL:Obl P 64 (fun v _=>R v) 0 _K [.run 248,.know 7 true,.run 49,.know 7 false,.run 49,.know 7 false,.run 133,.know 18 false,.run 47,.know 18 false,.run 47,.know 18 true,.run 26,.done] ((zb P 64 [.agg [.int .i64 k,.str a,.str b,.str c]] GW))=(((!a==([]:List UInt8))=true)∧((!b==([]:List UInt8))=false)∧((!c==([]:List UInt8))=false)∧(decide ((↑a.length:Int) > (64:Int))=false)∧(decide ((↑b.length:Int) > (0:Int))=false)∧(decide ((↑c.length:Int) > (0:Int))=true)∧(R (.int .i64 3))):=by rcases hk with rfl | rfl | rfl <;> kernel_rfl
theorem zhZ:Obl P 64 (fun v _=>R v) 0 _K [.run 248,.know 7 true,.run 49,.know 7 false,.run 49,.know 7 false,.run 133,.know 18 false,.run 47,.know 18 false,.run 47,.know 18 false,.run 52,.done] ((zb P 64 [.agg [.int .i64 k,.str a,.str b,.str c]] GW))=(((!a==([]:List UInt8))=true)∧((!b==([]:List UInt8))=false)∧((!c==([]:List UInt8))=false)∧(decide ((↑a.length:Int) > (64:Int))=false)∧(decide ((↑b.length:Int) > (0:Int))=false)∧(decide ((↑c.length:Int) > (0:Int))=false)∧(R (.int .i64 0))):=by rcases hk with rfl | rfl | rfl <;> kernel_rfl
theorem ck2ny:Obl P 64 (fun v _=>R v) 0 _K [.run 248,.know 7 false,.run 49,.know 7 true,.run 34,.done] ((zb P 64 [.agg [.int .i64 k,.str a,.str b,.str c]] GW))=(((!a==([]:List UInt8))=false)∧((!b==([]:List UInt8))=true)∧(R (.int .i64 2))):=by rcases hk with rfl | rfl | rfl <;> kernel_rfl
theorem zpg:Obl P 64 (fun v _=>R v) 0 _K [.run 248,.know 7 false,.run 49,.know 7 false,.run 49,.know 7 true,.run 34,.done] ((zb P 64 [.agg [.int .i64 k,.str a,.str b,.str c]] GW))=(((!a==([]:List UInt8))=false)∧((!b==([]:List UInt8))=false)∧((!c==([]:List UInt8))=true)∧(R (.int .i64 2))):=by rcases hk with rfl | rfl | rfl <;> kernel_rfl
theorem zmS:Obl P 64 (fun v _=>R v) 0 _K [.run 248,.know 7 false,.run 49,.know 7 false,.run 49,.know 7 false,.run 133,.know 18 true,.run 26,.done] ((zb P 64 [.agg [.int .i64 k,.str a,.str b,.str c]] GW))=(((!a==([]:List UInt8))=false)∧((!b==([]:List UInt8))=false)∧((!c==([]:List UInt8))=false)∧(decide ((↑a.length:Int) > (64:Int))=true)∧(R (.int .i64 3))):=by rcases hk with rfl | rfl | rfl <;> kernel_rfl
theorem zkm:Obl P 64 (fun v _=>R v) 0 _K [.run 248,.know 7 false,.run 49,.know 7 false,.run 49,.know 7 false,.run 133,.know 18 false,.run 47,.know 18 true,.run 26,.done] ((zb P 64 [.agg [.int .i64 k,.str a,.str b,.str c]] GW))=(((!a==([]:List UInt8))=false)∧((!b==([]:List UInt8))=false)∧((!c==([]:List UInt8))=false)∧(decide ((↑a.length:Int) > (64:Int))=false)∧(decide ((↑b.length:Int) > (0:Int))=true)∧(R (.int .i64 3))):=by rcases hk with rfl | rfl | rfl <;> kernel_rfl
theorem zjj:Obl P 64 (fun v _=>R v) 0 _K [.run 248,.know 7 false,.run 49,.know 7 false,.run 49,.know 7 false,.run 133,.know 18 false,.run 47,.know 18 false,.run 47,.know 18 true,.run 26,.done] ((zb P 64 [.agg [.int .i64 k,.str a,.str b,.str c]] GW))=(((!a==([]:List UInt8))=false)∧((!b==([]:List UInt8))=false)∧((!c==([]:List UInt8))=false)∧(decide ((↑a.length:Int) > (64:Int))=false)∧(decide ((↑b.length:Int) > (0:Int))=false)∧(decide ((↑c.length:Int) > (0:Int))=true)∧(R (.int .i64 3))):=by rcases hk with rfl | rfl | rfl <;> kernel_rfl
theorem zjD:Obl P 64 (fun v _=>R v) 0 _K [.run 248,.know 7 false,.run 49,.know 7 false,.run 49,.know 7 false,.run 133,.know 18 false,.run 47,.know 18 false,.run 47,.know 18 false,.run 52,.done] ((zb P 64 [.agg [.int .i64 k,.str a,.str b,.str c]] GW))=(((!a==([]:List UInt8))=false)∧((!b==([]:List UInt8))=false)∧((!c==([]:List UInt8))=false)∧(decide ((↑a.length:Int) > (64:Int))=false)∧(decide ((↑b.length:Int) > (0:Int))=false)∧(decide ((↑c.length:Int) > (0:Int))=false)∧(R (.int .i64 0))):=by rcases hk with rfl | rfl | rfl <;> kernel_rfl
theorem zfu:Goal P 0 64 (fun v _=>v=.int .i64 (zeU 64 0 0 a b c)) (zb P 64 [.agg [.int .i64 k,.str a,.str b,.str c]] GW):=by
 cases h0:((!a==([]:List UInt8))) with
 | true =>
  cases h1:((!b==([]:List UInt8))) with
  | true =>
   have g0:=neT h0; have g1:=neT h1; exact G6 (ck2yy hk) ⟨h0,h1,x2 (zaO (by omega))⟩
  | false =>
   cases h2:((!c==([]:List UInt8))) with
   | true =>
    have g0:=neT h0; have g1:=neF h1; have g2:=neT h2; exact G6 (zpt hk) ⟨h0,h1,h2,x2 (zaO (by omega))⟩
   | false =>
    cases h3:(decide ((↑a.length:Int) > (64:Int))) with
    | true =>
     have g0:=neT h0; have g1:=neF h1; have g2:=neF h2; have g3:=of_decide_eq_true h3; exact G6 (znp hk) ⟨h0,h1,h2,h3,x3 (zW (by omega) (by omega))⟩
    | false =>
     cases h4:(decide ((↑b.length:Int) > (0:Int))) with
     | true =>
      have g0:=neT h0; have g1:=neF h1; have g2:=neF h2; have g3:=of_decide_eq_false h3; have g4:=of_decide_eq_true h4; exact G6 (zkH hk) ⟨h0,h1,h2,h3,h4,x3 (zW (by omega) (by omega))⟩
     | false =>
      cases h5:(decide ((↑c.length:Int) > (0:Int))) with
      | true =>
       have g0:=neT h0; have g1:=neF h1; have g2:=neF h2; have g3:=of_decide_eq_false h3; have g4:=of_decide_eq_false h4; have g5:=of_decide_eq_true h5; exact G6 (zjL hk) ⟨h0,h1,h2,h3,h4,h5,x3 (zW (by omega) (by omega))⟩
      | false =>
       have g0:=neT h0; have g1:=neF h1; have g2:=neF h2; have g3:=of_decide_eq_false h3; have g4:=of_decide_eq_false h4; have g5:=of_decide_eq_false h5; exact G6 (zhZ hk) ⟨h0,h1,h2,h3,h4,h5,congrArg (AV.int .i64) (wY (by omega) (by omega)).symm⟩
 | false =>
  cases h1:((!b==([]:List UInt8))) with
  | true =>
   have g0:=neF h0; have g1:=neT h1; exact G6 (ck2ny hk) ⟨h0,h1,x2 (zaO (by omega))⟩
  | false =>
   cases h2:((!c==([]:List UInt8))) with
   | true =>
    have g0:=neF h0; have g1:=neF h1; have g2:=neT h2; exact G6 (zpg hk) ⟨h0,h1,h2,x2 (zaO (by omega))⟩
   | false =>
    cases h3:(decide ((↑a.length:Int) > (64:Int))) with
    | true =>
     have g0:=neF h0; have g1:=neF h1; have g2:=neF h2; have g3:=of_decide_eq_true h3; exact G6 (zmS hk) ⟨h0,h1,h2,h3,x3 (zW (by omega) (by omega))⟩
    | false =>
     cases h4:(decide ((↑b.length:Int) > (0:Int))) with
     | true =>
      have g0:=neF h0; have g1:=neF h1; have g2:=neF h2; have g3:=of_decide_eq_false h3; have g4:=of_decide_eq_true h4; exact G6 (zkm hk) ⟨h0,h1,h2,h3,h4,x3 (zW (by omega) (by omega))⟩
     | false =>
      cases h5:(decide ((↑c.length:Int) > (0:Int))) with
      | true =>
       have g0:=neF h0; have g1:=neF h1; have g2:=neF h2; have g3:=of_decide_eq_false h3; have g4:=of_decide_eq_false h4; have g5:=of_decide_eq_true h5; exact G6 (zjj hk) ⟨h0,h1,h2,h3,h4,h5,x3 (zW (by omega) (by omega))⟩
      | false =>
       have g0:=neF h0; have g1:=neF h1; have g2:=neF h2; have g3:=of_decide_eq_false h3; have g4:=of_decide_eq_false h4; have g5:=of_decide_eq_false h5; exact G6 (zjD hk) ⟨h0,h1,h2,h3,h4,h5,congrArg (AV.int .i64) (wY (by omega) (by omega)).symm⟩
end
section
variable {R:AV→Prop} {a b c:List UInt8} {_K:AM→Prop} {k:Int} (hk:k=3∨k=5∨k=9)
include hk
theorem zoy:Obl P 64 (fun v _=>R v) 0 _K [.run 248,.know 7 true,.run 49,.know 7 true,.run 49,.know 7 true,.run 133,.know 18 true,.run 26,.done] ((zb P 64 [.agg [.int .i64 k,.str a,.str b,.str c]] GW))=(((!a==([]:List UInt8))=true)∧((!b==([]:List UInt8))=true)∧((!c==([]:List UInt8))=true)∧(decide ((↑a.length:Int) > (64:Int))=true)∧(R (.int .i64 3))):=by rcases hk with rfl | rfl | rfl <;> kernel_rfl
theorem zkY:Obl P 64 (fun v _=>R v) 0 _K [.run 248,.know 7 true,.run 49,.know 7 true,.run 49,.know 7 true,.run 133,.know 18 false,.run 47,.know 18 true,.run 26,.done] ((zb P 64 [.agg [.int .i64 k,.str a,.str b,.str c]] GW))=(((!a==([]:List UInt8))=true)∧((!b==([]:List UInt8))=true)∧((!c==([]:List UInt8))=true)∧(decide ((↑a.length:Int) > (64:Int))=false)∧(decide ((↑b.length:Int) > (200:Int))=true)∧(R (.int .i64 3))):=by rcases hk with rfl | rfl | rfl <;> kernel_rfl
theorem zji:Obl P 64 (fun v _=>R v) 0 _K [.run 248,.know 7 true,.run 49,.know 7 true,.run 49,.know 7 true,.run 133,.know 18 false,.run 47,.know 18 false,.run 47,.know 18 true,.run 26,.done] ((zb P 64 [.agg [.int .i64 k,.str a,.str b,.str c]] GW))=(((!a==([]:List UInt8))=true)∧((!b==([]:List UInt8))=true)∧((!c==([]:List UInt8))=true)∧(decide ((↑a.length:Int) > (64:Int))=false)∧(decide ((↑b.length:Int) > (200:Int))=false)∧(decide ((↑c.length:Int) > (5000:Int))=true)∧(R (.int .i64 3))):=by rcases hk with rfl | rfl | rfl <;> kernel_rfl
theorem zht:Obl P 64 (fun v _=>R v) 0 _K [.run 248,.know 7 true,.run 49,.know 7 true,.run 49,.know 7 true,.run 133,.know 18 false,.run 47,.know 18 false,.run 47,.know 18 false,.run 52,.done] ((zb P 64 [.agg [.int .i64 k,.str a,.str b,.str c]] GW))=(((!a==([]:List UInt8))=true)∧((!b==([]:List UInt8))=true)∧((!c==([]:List UInt8))=true)∧(decide ((↑a.length:Int) > (64:Int))=false)∧(decide ((↑b.length:Int) > (200:Int))=false)∧(decide ((↑c.length:Int) > (5000:Int))=false)∧(R (.int .i64 0))):=by rcases hk with rfl | rfl | rfl <;> kernel_rfl
theorem zoi:Obl P 64 (fun v _=>R v) 0 _K [.run 248,.know 7 true,.run 49,.know 7 true,.run 49,.know 7 false,.run 133,.know 18 true,.run 26,.done] ((zb P 64 [.agg [.int .i64 k,.str a,.str b,.str c]] GW))=(((!a==([]:List UInt8))=true)∧((!b==([]:List UInt8))=true)∧((!c==([]:List UInt8))=false)∧(decide ((↑a.length:Int) > (64:Int))=true)∧(R (.int .i64 3))):=by rcases hk with rfl | rfl | rfl <;> kernel_rfl
theorem zly:Obl P 64 (fun v _=>R v) 0 _K [.run 248,.know 7 true,.run 49,.know 7 true,.run 49,.know 7 false,.run 133,.know 18 false,.run 47,.know 18 true,.run 26,.done] ((zb P 64 [.agg [.int .i64 k,.str a,.str b,.str c]] GW))=(((!a==([]:List UInt8))=true)∧((!b==([]:List UInt8))=true)∧((!c==([]:List UInt8))=false)∧(decide ((↑a.length:Int) > (64:Int))=false)∧(decide ((↑b.length:Int) > (200:Int))=true)∧(R (.int .i64 3))):=by rcases hk with rfl | rfl | rfl <;> kernel_rfl
theorem zih:Obl P 64 (fun v _=>R v) 0 _K [.run 248,.know 7 true,.run 49,.know 7 true,.run 49,.know 7 false,.run 133,.know 18 false,.run 47,.know 18 false,.run 47,.know 18 true,.run 26,.done] ((zb P 64 [.agg [.int .i64 k,.str a,.str b,.str c]] GW))=(((!a==([]:List UInt8))=true)∧((!b==([]:List UInt8))=true)∧((!c==([]:List UInt8))=false)∧(decide ((↑a.length:Int) > (64:Int))=false)∧(decide ((↑b.length:Int) > (200:Int))=false)∧(decide ((↑c.length:Int) > (5000:Int))=true)∧(R (.int .i64 3))):=by rcases hk with rfl | rfl | rfl <;> kernel_rfl
theorem zh2:Obl P 64 (fun v _=>R v) 0 _K [.run 248,.know 7 true,.run 49,.know 7 true,.run 49,.know 7 false,.run 133,.know 18 false,.run 47,.know 18 false,.run 47,.know 18 false,.run 52,.done] ((zb P 64 [.agg [.int .i64 k,.str a,.str b,.str c]] GW))=(((!a==([]:List UInt8))=true)∧((!b==([]:List UInt8))=true)∧((!c==([]:List UInt8))=false)∧(decide ((↑a.length:Int) > (64:Int))=false)∧(decide ((↑b.length:Int) > (200:Int))=false)∧(decide ((↑c.length:Int) > (5000:Int))=false)∧(R (.int .i64 0))):=by rcases hk with rfl | rfl | rfl <;> kernel_rfl
theorem zmU:Obl P 64 (fun v _=>R v) 0 _K [.run 248,.know 7 true,.run 49,.know 7 false,.run 49,.know 7 true,.run 133,.know 18 true,.run 26,.done] ((zb P 64 [.agg [.int .i64 k,.str a,.str b,.str c]] GW))=(((!a==([]:List UInt8))=true)∧((!b==([]:List UInt8))=false)∧((!c==([]:List UInt8))=true)∧(decide ((↑a.length:Int) > (64:Int))=true)∧(R (.int .i64 3))):=by rcases hk with rfl | rfl | rfl <;> kernel_rfl
theorem zll:Obl P 64 (fun v _=>R v) 0 _K [.run 248,.know 7 true,.run 49,.know 7 false,.run 49,.know 7 true,.run 133,.know 18 false,.run 47,.know 18 true,.run 26,.done] ((zb P 64 [.agg [.int .i64 k,.str a,.str b,.str c]] GW))=(((!a==([]:List UInt8))=true)∧((!b==([]:List UInt8))=false)∧((!c==([]:List UInt8))=true)∧(decide ((↑a.length:Int) > (64:Int))=false)∧(decide ((↑b.length:Int) > (200:Int))=true)∧(R (.int .i64 3))):=by rcases hk with rfl | rfl | rfl <;> kernel_rfl
theorem zhq:Obl P 64 (fun v _=>R v) 0 _K [.run 248,.know 7 true,.run 49,.know 7 false,.run 49,.know 7 true,.run 133,.know 18 false,.run 47,.know 18 false,.run 47,.know 18 true,.run 26,.done] ((zb P 64 [.agg [.int .i64 k,.str a,.str b,.str c]] GW))=(((!a==([]:List UInt8))=true)∧((!b==([]:List UInt8))=false)∧((!c==([]:List UInt8))=true)∧(decide ((↑a.length:Int) > (64:Int))=false)∧(decide ((↑b.length:Int) > (200:Int))=false)∧(decide ((↑c.length:Int) > (5000:Int))=true)∧(R (.int .i64 3))):=by rcases hk with rfl | rfl | rfl <;> kernel_rfl
theorem ziE:Obl P 64 (fun v _=>R v) 0 _K [.run 248,.know 7 true,.run 49,.know 7 false,.run 49,.know 7 true,.run 133,.know 18 false,.run 47,.know 18 false,.run 47,.know 18 false,.run 52,.done] ((zb P 64 [.agg [.int .i64 k,.str a,.str b,.str c]] GW))=(((!a==([]:List UInt8))=true)∧((!b==([]:List UInt8))=false)∧((!c==([]:List UInt8))=true)∧(decide ((↑a.length:Int) > (64:Int))=false)∧(decide ((↑b.length:Int) > (200:Int))=false)∧(decide ((↑c.length:Int) > (5000:Int))=false)∧(R (.int .i64 0))):=by rcases hk with rfl | rfl | rfl <;> kernel_rfl
theorem znY:Obl P 64 (fun v _=>R v) 0 _K [.run 248,.know 7 true,.run 49,.know 7 false,.run 49,.know 7 false,.run 133,.know 18 true,.run 26,.done] ((zb P 64 [.agg [.int .i64 k,.str a,.str b,.str c]] GW))=(((!a==([]:List UInt8))=true)∧((!b==([]:List UInt8))=false)∧((!c==([]:List UInt8))=false)∧(decide ((↑a.length:Int) > (64:Int))=true)∧(R (.int .i64 3))):=by rcases hk with rfl | rfl | rfl <;> kernel_rfl
theorem zlr:Obl P 64 (fun v _=>R v) 0 _K [.run 248,.know 7 true,.run 49,.know 7 false,.run 49,.know 7 false,.run 133,.know 18 false,.run 47,.know 18 true,.run 26,.done] ((zb P 64 [.agg [.int .i64 k,.str a,.str b,.str c]] GW))=(((!a==([]:List UInt8))=true)∧((!b==([]:List UInt8))=false)∧((!c==([]:List UInt8))=false)∧(decide ((↑a.length:Int) > (64:Int))=false)∧(decide ((↑b.length:Int) > (200:Int))=true)∧(R (.int .i64 3))):=by rcases hk with rfl | rfl | rfl <;> kernel_rfl
theorem zjQ:Obl P 64 (fun v _=>R v) 0 _K [.run 248,.know 7 true,.run 49,.know 7 false,.run 49,.know 7 false,.run 133,.know 18 false,.run 47,.know 18 false,.run 47,.know 18 true,.run 26,.done] ((zb P 64 [.agg [.int .i64 k,.str a,.str b,.str c]] GW))=(((!a==([]:List UInt8))=true)∧((!b==([]:List UInt8))=false)∧((!c==([]:List UInt8))=false)∧(decide ((↑a.length:Int) > (64:Int))=false)∧(decide ((↑b.length:Int) > (200:Int))=false)∧(decide ((↑c.length:Int) > (5000:Int))=true)∧(R (.int .i64 3))):=by rcases hk with rfl | rfl | rfl <;> kernel_rfl
theorem zjR:Obl P 64 (fun v _=>R v) 0 _K [.run 248,.know 7 true,.run 49,.know 7 false,.run 49,.know 7 false,.run 133,.know 18 false,.run 47,.know 18 false,.run 47,.know 18 false,.run 52,.done] ((zb P 64 [.agg [.int .i64 k,.str a,.str b,.str c]] GW))=(((!a==([]:List UInt8))=true)∧((!b==([]:List UInt8))=false)∧((!c==([]:List UInt8))=false)∧(decide ((↑a.length:Int) > (64:Int))=false)∧(decide ((↑b.length:Int) > (200:Int))=false)∧(decide ((↑c.length:Int) > (5000:Int))=false)∧(R (.int .i64 0))):=by rcases hk with rfl | rfl | rfl <;> kernel_rfl
theorem znA:Obl P 64 (fun v _=>R v) 0 _K [.run 248,.know 7 false,.run 49,.know 7 true,.run 49,.know 7 true,.run 133,.know 18 true,.run 26,.done] ((zb P 64 [.agg [.int .i64 k,.str a,.str b,.str c]] GW))=(((!a==([]:List UInt8))=false)∧((!b==([]:List UInt8))=true)∧((!c==([]:List UInt8))=true)∧(decide ((↑a.length:Int) > (64:Int))=true)∧(R (.int .i64 3))):=by rcases hk with rfl | rfl | rfl <;> kernel_rfl
theorem zkZ:Obl P 64 (fun v _=>R v) 0 _K [.run 248,.know 7 false,.run 49,.know 7 true,.run 49,.know 7 true,.run 133,.know 18 false,.run 47,.know 18 true,.run 26,.done] ((zb P 64 [.agg [.int .i64 k,.str a,.str b,.str c]] GW))=(((!a==([]:List UInt8))=false)∧((!b==([]:List UInt8))=true)∧((!c==([]:List UInt8))=true)∧(decide ((↑a.length:Int) > (64:Int))=false)∧(decide ((↑b.length:Int) > (200:Int))=true)∧(R (.int .i64 3))):=by rcases hk with rfl | rfl | rfl <;> kernel_rfl
theorem zjw:Obl P 64 (fun v _=>R v) 0 _K [.run 248,.know 7 false,.run 49,.know 7 true,.run 49,.know 7 true,.run 133,.know 18 false,.run 47,.know 18 false,.run 47,.know 18 true,.run 26,.done] ((zb P 64 [.agg [.int .i64 k,.str a,.str b,.str c]] GW))=(((!a==([]:List UInt8))=false)∧((!b==([]:List UInt8))=true)∧((!c==([]:List UInt8))=true)∧(decide ((↑a.length:Int) > (64:Int))=false)∧(decide ((↑b.length:Int) > (200:Int))=false)∧(decide ((↑c.length:Int) > (5000:Int))=true)∧(R (.int .i64 3))):=by rcases hk with rfl | rfl | rfl <;> kernel_rfl
theorem zjS:Obl P 64 (fun v _=>R v) 0 _K [.run 248,.know 7 false,.run 49,.know 7 true,.run 49,.know 7 true,.run 133,.know 18 false,.run 47,.know 18 false,.run 47,.know 18 false,.run 52,.done] ((zb P 64 [.agg [.int .i64 k,.str a,.str b,.str c]] GW))=(((!a==([]:List UInt8))=false)∧((!b==([]:List UInt8))=true)∧((!c==([]:List UInt8))=true)∧(decide ((↑a.length:Int) > (64:Int))=false)∧(decide ((↑b.length:Int) > (200:Int))=false)∧(decide ((↑c.length:Int) > (5000:Int))=false)∧(R (.int .i64 0))):=by rcases hk with rfl | rfl | rfl <;> kernel_rfl
theorem zof:Obl P 64 (fun v _=>R v) 0 _K [.run 248,.know 7 false,.run 49,.know 7 true,.run 49,.know 7 false,.run 133,.know 18 true,.run 26,.done] ((zb P 64 [.agg [.int .i64 k,.str a,.str b,.str c]] GW))=(((!a==([]:List UInt8))=false)∧((!b==([]:List UInt8))=true)∧((!c==([]:List UInt8))=false)∧(decide ((↑a.length:Int) > (64:Int))=true)∧(R (.int .i64 3))):=by rcases hk with rfl | rfl | rfl <;> kernel_rfl
theorem zk1:Obl P 64 (fun v _=>R v) 0 _K [.run 248,.know 7 false,.run 49,.know 7 true,.run 49,.know 7 false,.run 133,.know 18 false,.run 47,.know 18 true,.run 26,.done] ((zb P 64 [.agg [.int .i64 k,.str a,.str b,.str c]] GW))=(((!a==([]:List UInt8))=false)∧((!b==([]:List UInt8))=true)∧((!c==([]:List UInt8))=false)∧(decide ((↑a.length:Int) > (64:Int))=false)∧(decide ((↑b.length:Int) > (200:Int))=true)∧(R (.int .i64 3))):=by rcases hk with rfl | rfl | rfl <;> kernel_rfl
theorem zil:Obl P 64 (fun v _=>R v) 0 _K [.run 248,.know 7 false,.run 49,.know 7 true,.run 49,.know 7 false,.run 133,.know 18 false,.run 47,.know 18 false,.run 47,.know 18 true,.run 26,.done] ((zb P 64 [.agg [.int .i64 k,.str a,.str b,.str c]] GW))=(((!a==([]:List UInt8))=false)∧((!b==([]:List UInt8))=true)∧((!c==([]:List UInt8))=false)∧(decide ((↑a.length:Int) > (64:Int))=false)∧(decide ((↑b.length:Int) > (200:Int))=false)∧(decide ((↑c.length:Int) > (5000:Int))=true)∧(R (.int .i64 3))):=by rcases hk with rfl | rfl | rfl <;> kernel_rfl
theorem zid:Obl P 64 (fun v _=>R v) 0 _K [.run 248,.know 7 false,.run 49,.know 7 true,.run 49,.know 7 false,.run 133,.know 18 false,.run 47,.know 18 false,.run 47,.know 18 false,.run 52,.done] ((zb P 64 [.agg [.int .i64 k,.str a,.str b,.str c]] GW))=(((!a==([]:List UInt8))=false)∧((!b==([]:List UInt8))=true)∧((!c==([]:List UInt8))=false)∧(decide ((↑a.length:Int) > (64:Int))=false)∧(decide ((↑b.length:Int) > (200:Int))=false)∧(decide ((↑c.length:Int) > (5000:Int))=false)∧(R (.int .i64 0))):=by rcases hk with rfl | rfl | rfl <;> kernel_rfl
theorem znx:Obl P 64 (fun v _=>R v) 0 _K [.run 248,.know 7 false,.run 49,.know 7 false,.run 49,.know 7 true,.run 133,.know 18 true,.run 26,.done] ((zb P 64 [.agg [.int .i64 k,.str a,.str b,.str c]] GW))=(((!a==([]:List UInt8))=false)∧((!b==([]:List UInt8))=false)∧((!c==([]:List UInt8))=true)∧(decide ((↑a.length:Int) > (64:Int))=true)∧(R (.int .i64 3))):=by rcases hk with rfl | rfl | rfl <;> kernel_rfl
theorem zkT:Obl P 64 (fun v _=>R v) 0 _K [.run 248,.know 7 false,.run 49,.know 7 false,.run 49,.know 7 true,.run 133,.know 18 false,.run 47,.know 18 true,.run 26,.done] ((zb P 64 [.agg [.int .i64 k,.str a,.str b,.str c]] GW))=(((!a==([]:List UInt8))=false)∧((!b==([]:List UInt8))=false)∧((!c==([]:List UInt8))=true)∧(decide ((↑a.length:Int) > (64:Int))=false)∧(decide ((↑b.length:Int) > (200:Int))=true)∧(R (.int .i64 3))):=by rcases hk with rfl | rfl | rfl <;> kernel_rfl
theorem zjJ:Obl P 64 (fun v _=>R v) 0 _K [.run 248,.know 7 false,.run 49,.know 7 false,.run 49,.know 7 true,.run 133,.know 18 false,.run 47,.know 18 false,.run 47,.know 18 true,.run 26,.done] ((zb P 64 [.agg [.int .i64 k,.str a,.str b,.str c]] GW))=(((!a==([]:List UInt8))=false)∧((!b==([]:List UInt8))=false)∧((!c==([]:List UInt8))=true)∧(decide ((↑a.length:Int) > (64:Int))=false)∧(decide ((↑b.length:Int) > (200:Int))=false)∧(decide ((↑c.length:Int) > (5000:Int))=true)∧(R (.int .i64 3))):=by rcases hk with rfl | rfl | rfl <;> kernel_rfl
theorem zhj:Obl P 64 (fun v _=>R v) 0 _K [.run 248,.know 7 false,.run 49,.know 7 false,.run 49,.know 7 true,.run 133,.know 18 false,.run 47,.know 18 false,.run 47,.know 18 false,.run 52,.done] ((zb P 64 [.agg [.int .i64 k,.str a,.str b,.str c]] GW))=(((!a==([]:List UInt8))=false)∧((!b==([]:List UInt8))=false)∧((!c==([]:List UInt8))=true)∧(decide ((↑a.length:Int) > (64:Int))=false)∧(decide ((↑b.length:Int) > (200:Int))=false)∧(decide ((↑c.length:Int) > (5000:Int))=false)∧(R (.int .i64 0))):=by rcases hk with rfl | rfl | rfl <;> kernel_rfl
theorem zoc:Obl P 64 (fun v _=>R v) 0 _K [.run 248,.know 7 false,.run 49,.know 7 false,.run 49,.know 7 false,.run 133,.know 18 true,.run 26,.done] ((zb P 64 [.agg [.int .i64 k,.str a,.str b,.str c]] GW))=(((!a==([]:List UInt8))=false)∧((!b==([]:List UInt8))=false)∧((!c==([]:List UInt8))=false)∧(decide ((↑a.length:Int) > (64:Int))=true)∧(R (.int .i64 3))):=by rcases hk with rfl | rfl | rfl <;> kernel_rfl
theorem zkh:Obl P 64 (fun v _=>R v) 0 _K [.run 248,.know 7 false,.run 49,.know 7 false,.run 49,.know 7 false,.run 133,.know 18 false,.run 47,.know 18 true,.run 26,.done] ((zb P 64 [.agg [.int .i64 k,.str a,.str b,.str c]] GW))=(((!a==([]:List UInt8))=false)∧((!b==([]:List UInt8))=false)∧((!c==([]:List UInt8))=false)∧(decide ((↑a.length:Int) > (64:Int))=false)∧(decide ((↑b.length:Int) > (200:Int))=true)∧(R (.int .i64 3))):=by rcases hk with rfl | rfl | rfl <;> kernel_rfl
theorem zjs:Obl P 64 (fun v _=>R v) 0 _K [.run 248,.know 7 false,.run 49,.know 7 false,.run 49,.know 7 false,.run 133,.know 18 false,.run 47,.know 18 false,.run 47,.know 18 true,.run 26,.done] ((zb P 64 [.agg [.int .i64 k,.str a,.str b,.str c]] GW))=(((!a==([]:List UInt8))=false)∧((!b==([]:List UInt8))=false)∧((!c==([]:List UInt8))=false)∧(decide ((↑a.length:Int) > (64:Int))=false)∧(decide ((↑b.length:Int) > (200:Int))=false)∧(decide ((↑c.length:Int) > (5000:Int))=true)∧(R (.int .i64 3))):=by rcases hk with rfl | rfl | rfl <;> kernel_rfl
theorem zhW:Obl P 64 (fun v _=>R v) 0 _K [.run 248,.know 7 false,.run 49,.know 7 false,.run 49,.know 7 false,.run 133,.know 18 false,.run 47,.know 18 false,.run 47,.know 18 false,.run 52,.done] ((zb P 64 [.agg [.int .i64 k,.str a,.str b,.str c]] GW))=(((!a==([]:List UInt8))=false)∧((!b==([]:List UInt8))=false)∧((!c==([]:List UInt8))=false)∧(decide ((↑a.length:Int) > (64:Int))=false)∧(decide ((↑b.length:Int) > (200:Int))=false)∧(decide ((↑c.length:Int) > (5000:Int))=false)∧(R (.int .i64 0))):=by rcases hk with rfl | rfl | rfl <;> kernel_rfl
theorem zfY:Goal P 0 64 (fun v _=>v=.int .i64 (zeU 64 200 5000 a b c)) (zb P 64 [.agg [.int .i64 k,.str a,.str b,.str c]] GW):=by
 cases h0:((!a==([]:List UInt8))) with
 | true =>
  cases h1:((!b==([]:List UInt8))) with
  | true =>
   cases h2:((!c==([]:List UInt8))) with
   | true =>
    cases h3:(decide ((↑a.length:Int) > (64:Int))) with
    | true =>
     have g0:=neT h0; have g1:=neT h1; have g2:=neT h2; have g3:=of_decide_eq_true h3; exact G6 (zoy hk) ⟨h0,h1,h2,h3,x3 (zW (by omega) (by omega))⟩
    | false =>
     cases h4:(decide ((↑b.length:Int) > (200:Int))) with
     | true =>
      have g0:=neT h0; have g1:=neT h1; have g2:=neT h2; have g3:=of_decide_eq_false h3; have g4:=of_decide_eq_true h4; exact G6 (zkY hk) ⟨h0,h1,h2,h3,h4,x3 (zW (by omega) (by omega))⟩
     | false =>
      cases h5:(decide ((↑c.length:Int) > (5000:Int))) with
      | true =>
       have g0:=neT h0; have g1:=neT h1; have g2:=neT h2; have g3:=of_decide_eq_false h3; have g4:=of_decide_eq_false h4; have g5:=of_decide_eq_true h5; exact G6 (zji hk) ⟨h0,h1,h2,h3,h4,h5,x3 (zW (by omega) (by omega))⟩
      | false =>
       have g0:=neT h0; have g1:=neT h1; have g2:=neT h2; have g3:=of_decide_eq_false h3; have g4:=of_decide_eq_false h4; have g5:=of_decide_eq_false h5; exact G6 (zht hk) ⟨h0,h1,h2,h3,h4,h5,congrArg (AV.int .i64) (wY (by omega) (by omega)).symm⟩
   | false =>
    cases h3:(decide ((↑a.length:Int) > (64:Int))) with
    | true =>
     have g0:=neT h0; have g1:=neT h1; have g2:=neF h2; have g3:=of_decide_eq_true h3; exact G6 (zoi hk) ⟨h0,h1,h2,h3,x3 (zW (by omega) (by omega))⟩
    | false =>
     cases h4:(decide ((↑b.length:Int) > (200:Int))) with
     | true =>
      have g0:=neT h0; have g1:=neT h1; have g2:=neF h2; have g3:=of_decide_eq_false h3; have g4:=of_decide_eq_true h4; exact G6 (zly hk) ⟨h0,h1,h2,h3,h4,x3 (zW (by omega) (by omega))⟩
     | false =>
      cases h5:(decide ((↑c.length:Int) > (5000:Int))) with
      | true =>
       have g0:=neT h0; have g1:=neT h1; have g2:=neF h2; have g3:=of_decide_eq_false h3; have g4:=of_decide_eq_false h4; have g5:=of_decide_eq_true h5; exact G6 (zih hk) ⟨h0,h1,h2,h3,h4,h5,x3 (zW (by omega) (by omega))⟩
      | false =>
       have g0:=neT h0; have g1:=neT h1; have g2:=neF h2; have g3:=of_decide_eq_false h3; have g4:=of_decide_eq_false h4; have g5:=of_decide_eq_false h5; exact G6 (zh2 hk) ⟨h0,h1,h2,h3,h4,h5,congrArg (AV.int .i64) (wY (by omega) (by omega)).symm⟩
  | false =>
   cases h2:((!c==([]:List UInt8))) with
   | true =>
    cases h3:(decide ((↑a.length:Int) > (64:Int))) with
    | true =>
     have g0:=neT h0; have g1:=neF h1; have g2:=neT h2; have g3:=of_decide_eq_true h3; exact G6 (zmU hk) ⟨h0,h1,h2,h3,x3 (zW (by omega) (by omega))⟩
    | false =>
     cases h4:(decide ((↑b.length:Int) > (200:Int))) with
     | true =>
      have g0:=neT h0; have g1:=neF h1; have g2:=neT h2; have g3:=of_decide_eq_false h3; have g4:=of_decide_eq_true h4; exact G6 (zll hk) ⟨h0,h1,h2,h3,h4,x3 (zW (by omega) (by omega))⟩
     | false =>
      cases h5:(decide ((↑c.length:Int) > (5000:Int))) with
      | true =>
       have g0:=neT h0; have g1:=neF h1; have g2:=neT h2; have g3:=of_decide_eq_false h3; have g4:=of_decide_eq_false h4; have g5:=of_decide_eq_true h5; exact G6 (zhq hk) ⟨h0,h1,h2,h3,h4,h5,x3 (zW (by omega) (by omega))⟩
      | false =>
       have g0:=neT h0; have g1:=neF h1; have g2:=neT h2; have g3:=of_decide_eq_false h3; have g4:=of_decide_eq_false h4; have g5:=of_decide_eq_false h5; exact G6 (ziE hk) ⟨h0,h1,h2,h3,h4,h5,congrArg (AV.int .i64) (wY (by omega) (by omega)).symm⟩
   | false =>
    cases h3:(decide ((↑a.length:Int) > (64:Int))) with
    | true =>
     have g0:=neT h0; have g1:=neF h1; have g2:=neF h2; have g3:=of_decide_eq_true h3; exact G6 (znY hk) ⟨h0,h1,h2,h3,x3 (zW (by omega) (by omega))⟩
    | false =>
     cases h4:(decide ((↑b.length:Int) > (200:Int))) with
     | true =>
      have g0:=neT h0; have g1:=neF h1; have g2:=neF h2; have g3:=of_decide_eq_false h3; have g4:=of_decide_eq_true h4; exact G6 (zlr hk) ⟨h0,h1,h2,h3,h4,x3 (zW (by omega) (by omega))⟩
     | false =>
      cases h5:(decide ((↑c.length:Int) > (5000:Int))) with
      | true =>
       have g0:=neT h0; have g1:=neF h1; have g2:=neF h2; have g3:=of_decide_eq_false h3; have g4:=of_decide_eq_false h4; have g5:=of_decide_eq_true h5; exact G6 (zjQ hk) ⟨h0,h1,h2,h3,h4,h5,x3 (zW (by omega) (by omega))⟩
      | false =>
       have g0:=neT h0; have g1:=neF h1; have g2:=neF h2; have g3:=of_decide_eq_false h3; have g4:=of_decide_eq_false h4; have g5:=of_decide_eq_false h5; exact G6 (zjR hk) ⟨h0,h1,h2,h3,h4,h5,congrArg (AV.int .i64) (wY (by omega) (by omega)).symm⟩
 | false =>
  cases h1:((!b==([]:List UInt8))) with
  | true =>
   cases h2:((!c==([]:List UInt8))) with
   | true =>
    cases h3:(decide ((↑a.length:Int) > (64:Int))) with
    | true =>
     have g0:=neF h0; have g1:=neT h1; have g2:=neT h2; have g3:=of_decide_eq_true h3; exact G6 (znA hk) ⟨h0,h1,h2,h3,x3 (zW (by omega) (by omega))⟩
    | false =>
     cases h4:(decide ((↑b.length:Int) > (200:Int))) with
     | true =>
      have g0:=neF h0; have g1:=neT h1; have g2:=neT h2; have g3:=of_decide_eq_false h3; have g4:=of_decide_eq_true h4; exact G6 (zkZ hk) ⟨h0,h1,h2,h3,h4,x3 (zW (by omega) (by omega))⟩
     | false =>
      cases h5:(decide ((↑c.length:Int) > (5000:Int))) with
      | true =>
       have g0:=neF h0; have g1:=neT h1; have g2:=neT h2; have g3:=of_decide_eq_false h3; have g4:=of_decide_eq_false h4; have g5:=of_decide_eq_true h5; exact G6 (zjw hk) ⟨h0,h1,h2,h3,h4,h5,x3 (zW (by omega) (by omega))⟩
      | false =>
       have g0:=neF h0; have g1:=neT h1; have g2:=neT h2; have g3:=of_decide_eq_false h3; have g4:=of_decide_eq_false h4; have g5:=of_decide_eq_false h5; exact G6 (zjS hk) ⟨h0,h1,h2,h3,h4,h5,congrArg (AV.int .i64) (wY (by omega) (by omega)).symm⟩
   | false =>
    cases h3:(decide ((↑a.length:Int) > (64:Int))) with
    | true =>
     have g0:=neF h0; have g1:=neT h1; have g2:=neF h2; have g3:=of_decide_eq_true h3; exact G6 (zof hk) ⟨h0,h1,h2,h3,x3 (zW (by omega) (by omega))⟩
    | false =>
     cases h4:(decide ((↑b.length:Int) > (200:Int))) with
     | true =>
      have g0:=neF h0; have g1:=neT h1; have g2:=neF h2; have g3:=of_decide_eq_false h3; have g4:=of_decide_eq_true h4; exact G6 (zk1 hk) ⟨h0,h1,h2,h3,h4,x3 (zW (by omega) (by omega))⟩
     | false =>
      cases h5:(decide ((↑c.length:Int) > (5000:Int))) with
      | true =>
       have g0:=neF h0; have g1:=neT h1; have g2:=neF h2; have g3:=of_decide_eq_false h3; have g4:=of_decide_eq_false h4; have g5:=of_decide_eq_true h5; exact G6 (zil hk) ⟨h0,h1,h2,h3,h4,h5,x3 (zW (by omega) (by omega))⟩
      | false =>
       have g0:=neF h0; have g1:=neT h1; have g2:=neF h2; have g3:=of_decide_eq_false h3; have g4:=of_decide_eq_false h4; have g5:=of_decide_eq_false h5; exact G6 (zid hk) ⟨h0,h1,h2,h3,h4,h5,congrArg (AV.int .i64) (wY (by omega) (by omega)).symm⟩
  | false =>
   cases h2:((!c==([]:List UInt8))) with
   | true =>
    cases h3:(decide ((↑a.length:Int) > (64:Int))) with
    | true =>
     have g0:=neF h0; have g1:=neF h1; have g2:=neT h2; have g3:=of_decide_eq_true h3; exact G6 (znx hk) ⟨h0,h1,h2,h3,x3 (zW (by omega) (by omega))⟩
    | false =>
     cases h4:(decide ((↑b.length:Int) > (200:Int))) with
     | true =>
      have g0:=neF h0; have g1:=neF h1; have g2:=neT h2; have g3:=of_decide_eq_false h3; have g4:=of_decide_eq_true h4; exact G6 (zkT hk) ⟨h0,h1,h2,h3,h4,x3 (zW (by omega) (by omega))⟩
     | false =>
      cases h5:(decide ((↑c.length:Int) > (5000:Int))) with
      | true =>
       have g0:=neF h0; have g1:=neF h1; have g2:=neT h2; have g3:=of_decide_eq_false h3; have g4:=of_decide_eq_false h4; have g5:=of_decide_eq_true h5; exact G6 (zjJ hk) ⟨h0,h1,h2,h3,h4,h5,x3 (zW (by omega) (by omega))⟩
      | false =>
       have g0:=neF h0; have g1:=neF h1; have g2:=neT h2; have g3:=of_decide_eq_false h3; have g4:=of_decide_eq_false h4; have g5:=of_decide_eq_false h5; exact G6 (zhj hk) ⟨h0,h1,h2,h3,h4,h5,congrArg (AV.int .i64) (wY (by omega) (by omega)).symm⟩
   | false =>
    cases h3:(decide ((↑a.length:Int) > (64:Int))) with
    | true =>
     have g0:=neF h0; have g1:=neF h1; have g2:=neF h2; have g3:=of_decide_eq_true h3; exact G6 (zoc hk) ⟨h0,h1,h2,h3,x3 (zW (by omega) (by omega))⟩
    | false =>
     cases h4:(decide ((↑b.length:Int) > (200:Int))) with
     | true =>
      have g0:=neF h0; have g1:=neF h1; have g2:=neF h2; have g3:=of_decide_eq_false h3; have g4:=of_decide_eq_true h4; exact G6 (zkh hk) ⟨h0,h1,h2,h3,h4,x3 (zW (by omega) (by omega))⟩
     | false =>
      cases h5:(decide ((↑c.length:Int) > (5000:Int))) with
      | true =>
       have g0:=neF h0; have g1:=neF h1; have g2:=neF h2; have g3:=of_decide_eq_false h3; have g4:=of_decide_eq_false h4; have g5:=of_decide_eq_true h5; exact G6 (zjs hk) ⟨h0,h1,h2,h3,h4,h5,x3 (zW (by omega) (by omega))⟩
      | false =>
       have g0:=neF h0; have g1:=neF h1; have g2:=neF h2; have g3:=of_decide_eq_false h3; have g4:=of_decide_eq_false h4; have g5:=of_decide_eq_false h5; exact G6 (zhW hk) ⟨h0,h1,h2,h3,h4,h5,congrArg (AV.int .i64) (wY (by omega) (by omega)).symm⟩
end
section
variable {R:AV→Prop} {a b c:List UInt8} {_K:AM→Prop} {k:Int} (hk:k=4∨k=6)
include hk
theorem zpI:Obl P 64 (fun v _=>R v) 0 _K [.run 248,.know 7 true,.run 49,.know 7 true,.run 49,.know 7 true,.run 34,.done] ((zb P 64 [.agg [.int .i64 k,.str a,.str b,.str c]] GW))=(((!a==([]:List UInt8))=true)∧((!b==([]:List UInt8))=true)∧((!c==([]:List UInt8))=true)∧(R (.int .i64 2))):=by rcases hk with rfl | rfl <;> kernel_rfl
theorem zne:Obl P 64 (fun v _=>R v) 0 _K [.run 248,.know 7 true,.run 49,.know 7 true,.run 49,.know 7 false,.run 133,.know 18 true,.run 26,.done] ((zb P 64 [.agg [.int .i64 k,.str a,.str b,.str c]] GW))=(((!a==([]:List UInt8))=true)∧((!b==([]:List UInt8))=true)∧((!c==([]:List UInt8))=false)∧(decide ((↑a.length:Int) > (64:Int))=true)∧(R (.int .i64 3))):=by rcases hk with rfl | rfl <;> kernel_rfl
theorem zk6:Obl P 64 (fun v _=>R v) 0 _K [.run 248,.know 7 true,.run 49,.know 7 true,.run 49,.know 7 false,.run 133,.know 18 false,.run 47,.know 18 true,.run 26,.done] ((zb P 64 [.agg [.int .i64 k,.str a,.str b,.str c]] GW))=(((!a==([]:List UInt8))=true)∧((!b==([]:List UInt8))=true)∧((!c==([]:List UInt8))=false)∧(decide ((↑a.length:Int) > (64:Int))=false)∧(decide ((↑b.length:Int) > (200:Int))=true)∧(R (.int .i64 3))):=by rcases hk with rfl | rfl <;> kernel_rfl
theorem zhX:Obl P 64 (fun v _=>R v) 0 _K [.run 248,.know 7 true,.run 49,.know 7 true,.run 49,.know 7 false,.run 133,.know 18 false,.run 47,.know 18 false,.run 47,.know 18 true,.run 26,.done] ((zb P 64 [.agg [.int .i64 k,.str a,.str b,.str c]] GW))=(((!a==([]:List UInt8))=true)∧((!b==([]:List UInt8))=true)∧((!c==([]:List UInt8))=false)∧(decide ((↑a.length:Int) > (64:Int))=false)∧(decide ((↑b.length:Int) > (200:Int))=false)∧(decide ((↑c.length:Int) > (0:Int))=true)∧(R (.int .i64 3))):=by rcases hk with rfl | rfl <;> kernel_rfl
theorem ziN:Obl P 64 (fun v _=>R v) 0 _K [.run 248,.know 7 true,.run 49,.know 7 true,.run 49,.know 7 false,.run 133,.know 18 false,.run 47,.know 18 false,.run 47,.know 18 false,.run 52,.done] ((zb P 64 [.agg [.int .i64 k,.str a,.str b,.str c]] GW))=(((!a==([]:List UInt8))=true)∧((!b==([]:List UInt8))=true)∧((!c==([]:List UInt8))=false)∧(decide ((↑a.length:Int) > (64:Int))=false)∧(decide ((↑b.length:Int) > (200:Int))=false)∧(decide ((↑c.length:Int) > (0:Int))=false)∧(R (.int .i64 0))):=by rcases hk with rfl | rfl <;> kernel_rfl
theorem zpN:Obl P 64 (fun v _=>R v) 0 _K [.run 248,.know 7 true,.run 49,.know 7 false,.run 49,.know 7 true,.run 34,.done] ((zb P 64 [.agg [.int .i64 k,.str a,.str b,.str c]] GW))=(((!a==([]:List UInt8))=true)∧((!b==([]:List UInt8))=false)∧((!c==([]:List UInt8))=true)∧(R (.int .i64 2))):=by rcases hk with rfl | rfl <;> kernel_rfl
theorem zmX:Obl P 64 (fun v _=>R v) 0 _K [.run 248,.know 7 true,.run 49,.know 7 false,.run 49,.know 7 false,.run 133,.know 18 true,.run 26,.done] ((zb P 64 [.agg [.int .i64 k,.str a,.str b,.str c]] GW))=(((!a==([]:List UInt8))=true)∧((!b==([]:List UInt8))=false)∧((!c==([]:List UInt8))=false)∧(decide ((↑a.length:Int) > (64:Int))=true)∧(R (.int .i64 3))):=by rcases hk with rfl | rfl <;> kernel_rfl
theorem zki:Obl P 64 (fun v _=>R v) 0 _K [.run 248,.know 7 true,.run 49,.know 7 false,.run 49,.know 7 false,.run 133,.know 18 false,.run 47,.know 18 true,.run 26,.done] ((zb P 64 [.agg [.int .i64 k,.str a,.str b,.str c]] GW))=(((!a==([]:List UInt8))=true)∧((!b==([]:List UInt8))=false)∧((!c==([]:List UInt8))=false)∧(decide ((↑a.length:Int) > (64:Int))=false)∧(decide ((↑b.length:Int) > (200:Int))=true)∧(R (.int .i64 3))):=by rcases hk with rfl | rfl <;> kernel_rfl
theorem zhN:Obl P 64 (fun v _=>R v) 0 _K [.run 248,.know 7 true,.run 49,.know 7 false,.run 49,.know 7 false,.run 133,.know 18 false,.run 47,.know 18 false,.run 47,.know 18 true,.run 26,.done] ((zb P 64 [.agg [.int .i64 k,.str a,.str b,.str c]] GW))=(((!a==([]:List UInt8))=true)∧((!b==([]:List UInt8))=false)∧((!c==([]:List UInt8))=false)∧(decide ((↑a.length:Int) > (64:Int))=false)∧(decide ((↑b.length:Int) > (200:Int))=false)∧(decide ((↑c.length:Int) > (0:Int))=true)∧(R (.int .i64 3))):=by rcases hk with rfl | rfl <;> kernel_rfl
theorem zjB:Obl P 64 (fun v _=>R v) 0 _K [.run 248,.know 7 true,.run 49,.know 7 false,.run 49,.know 7 false,.run 133,.know 18 false,.run 47,.know 18 false,.run 47,.know 18 false,.run 52,.done] ((zb P 64 [.agg [.int .i64 k,.str a,.str b,.str c]] GW))=(((!a==([]:List UInt8))=true)∧((!b==([]:List UInt8))=false)∧((!c==([]:List UInt8))=false)∧(decide ((↑a.length:Int) > (64:Int))=false)∧(decide ((↑b.length:Int) > (200:Int))=false)∧(decide ((↑c.length:Int) > (0:Int))=false)∧(R (.int .i64 0))):=by rcases hk with rfl | rfl <;> kernel_rfl
theorem zpa:Obl P 64 (fun v _=>R v) 0 _K [.run 248,.know 7 false,.run 49,.know 7 true,.run 49,.know 7 true,.run 34,.done] ((zb P 64 [.agg [.int .i64 k,.str a,.str b,.str c]] GW))=(((!a==([]:List UInt8))=false)∧((!b==([]:List UInt8))=true)∧((!c==([]:List UInt8))=true)∧(R (.int .i64 2))):=by rcases hk with rfl | rfl <;> kernel_rfl
theorem znI:Obl P 64 (fun v _=>R v) 0 _K [.run 248,.know 7 false,.run 49,.know 7 true,.run 49,.know 7 false,.run 133,.know 18 true,.run 26,.done] ((zb P 64 [.agg [.int .i64 k,.str a,.str b,.str c]] GW))=(((!a==([]:List UInt8))=false)∧((!b==([]:List UInt8))=true)∧((!c==([]:List UInt8))=false)∧(decide ((↑a.length:Int) > (64:Int))=true)∧(R (.int .i64 3))):=by rcases hk with rfl | rfl <;> kernel_rfl
theorem zkl:Obl P 64 (fun v _=>R v) 0 _K [.run 248,.know 7 false,.run 49,.know 7 true,.run 49,.know 7 false,.run 133,.know 18 false,.run 47,.know 18 true,.run 26,.done] ((zb P 64 [.agg [.int .i64 k,.str a,.str b,.str c]] GW))=(((!a==([]:List UInt8))=false)∧((!b==([]:List UInt8))=true)∧((!c==([]:List UInt8))=false)∧(decide ((↑a.length:Int) > (64:Int))=false)∧(decide ((↑b.length:Int) > (200:Int))=true)∧(R (.int .i64 3))):=by rcases hk with rfl | rfl <;> kernel_rfl
theorem zif:Obl P 64 (fun v _=>R v) 0 _K [.run 248,.know 7 false,.run 49,.know 7 true,.run 49,.know 7 false,.run 133,.know 18 false,.run 47,.know 18 false,.run 47,.know 18 true,.run 26,.done] ((zb P 64 [.agg [.int .i64 k,.str a,.str b,.str c]] GW))=(((!a==([]:List UInt8))=false)∧((!b==([]:List UInt8))=true)∧((!c==([]:List UInt8))=false)∧(decide ((↑a.length:Int) > (64:Int))=false)∧(decide ((↑b.length:Int) > (200:Int))=false)∧(decide ((↑c.length:Int) > (0:Int))=true)∧(R (.int .i64 3))):=by rcases hk with rfl | rfl <;> kernel_rfl
theorem ziA:Obl P 64 (fun v _=>R v) 0 _K [.run 248,.know 7 false,.run 49,.know 7 true,.run 49,.know 7 false,.run 133,.know 18 false,.run 47,.know 18 false,.run 47,.know 18 false,.run 52,.done] ((zb P 64 [.agg [.int .i64 k,.str a,.str b,.str c]] GW))=(((!a==([]:List UInt8))=false)∧((!b==([]:List UInt8))=true)∧((!c==([]:List UInt8))=false)∧(decide ((↑a.length:Int) > (64:Int))=false)∧(decide ((↑b.length:Int) > (200:Int))=false)∧(decide ((↑c.length:Int) > (0:Int))=false)∧(R (.int .i64 0))):=by rcases hk with rfl | rfl <;> kernel_rfl
theorem zo7:Obl P 64 (fun v _=>R v) 0 _K [.run 248,.know 7 false,.run 49,.know 7 false,.run 49,.know 7 true,.run 34,.done] ((zb P 64 [.agg [.int .i64 k,.str a,.str b,.str c]] GW))=(((!a==([]:List UInt8))=false)∧((!b==([]:List UInt8))=false)∧((!c==([]:List UInt8))=true)∧(R (.int .i64 2))):=by rcases hk with rfl | rfl <;> kernel_rfl
theorem zna:Obl P 64 (fun v _=>R v) 0 _K [.run 248,.know 7 false,.run 49,.know 7 false,.run 49,.know 7 false,.run 133,.know 18 true,.run 26,.done] ((zb P 64 [.agg [.int .i64 k,.str a,.str b,.str c]] GW))=(((!a==([]:List UInt8))=false)∧((!b==([]:List UInt8))=false)∧((!c==([]:List UInt8))=false)∧(decide ((↑a.length:Int) > (64:Int))=true)∧(R (.int .i64 3))):=by rcases hk with rfl | rfl <;> kernel_rfl
theorem zlD:Obl P 64 (fun v _=>R v) 0 _K [.run 248,.know 7 false,.run 49,.know 7 false,.run 49,.know 7 false,.run 133,.know 18 false,.run 47,.know 18 true,.run 26,.done] ((zb P 64 [.agg [.int .i64 k,.str a,.str b,.str c]] GW))=(((!a==([]:List UInt8))=false)∧((!b==([]:List UInt8))=false)∧((!c==([]:List UInt8))=false)∧(decide ((↑a.length:Int) > (64:Int))=false)∧(decide ((↑b.length:Int) > (200:Int))=true)∧(R (.int .i64 3))):=by rcases hk with rfl | rfl <;> kernel_rfl
theorem zig:Obl P 64 (fun v _=>R v) 0 _K [.run 248,.know 7 false,.run 49,.know 7 false,.run 49,.know 7 false,.run 133,.know 18 false,.run 47,.know 18 false,.run 47,.know 18 true,.run 26,.done] ((zb P 64 [.agg [.int .i64 k,.str a,.str b,.str c]] GW))=(((!a==([]:List UInt8))=false)∧((!b==([]:List UInt8))=false)∧((!c==([]:List UInt8))=false)∧(decide ((↑a.length:Int) > (64:Int))=false)∧(decide ((↑b.length:Int) > (200:Int))=false)∧(decide ((↑c.length:Int) > (0:Int))=true)∧(R (.int .i64 3))):=by rcases hk with rfl | rfl <;> kernel_rfl
theorem ziC:Obl P 64 (fun v _=>R v) 0 _K [.run 248,.know 7 false,.run 49,.know 7 false,.run 49,.know 7 false,.run 133,.know 18 false,.run 47,.know 18 false,.run 47,.know 18 false,.run 52,.done] ((zb P 64 [.agg [.int .i64 k,.str a,.str b,.str c]] GW))=(((!a==([]:List UInt8))=false)∧((!b==([]:List UInt8))=false)∧((!c==([]:List UInt8))=false)∧(decide ((↑a.length:Int) > (64:Int))=false)∧(decide ((↑b.length:Int) > (200:Int))=false)∧(decide ((↑c.length:Int) > (0:Int))=false)∧(R (.int .i64 0))):=by rcases hk with rfl | rfl <;> kernel_rfl
theorem zhI:Goal P 0 64 (fun v _=>v=.int .i64 (zeU 64 200 0 a b c)) (zb P 64 [.agg [.int .i64 k,.str a,.str b,.str c]] GW):=by
 cases h0:((!a==([]:List UInt8))) with
 | true =>
  cases h1:((!b==([]:List UInt8))) with
  | true =>
   cases h2:((!c==([]:List UInt8))) with
   | true =>
    have g0:=neT h0; have g1:=neT h1; have g2:=neT h2; exact G6 (zpI hk) ⟨h0,h1,h2,x2 (zaO (by omega))⟩
   | false =>
    cases h3:(decide ((↑a.length:Int) > (64:Int))) with
    | true =>
     have g0:=neT h0; have g1:=neT h1; have g2:=neF h2; have g3:=of_decide_eq_true h3; exact G6 (zne hk) ⟨h0,h1,h2,h3,x3 (zW (by omega) (by omega))⟩
    | false =>
     cases h4:(decide ((↑b.length:Int) > (200:Int))) with
     | true =>
      have g0:=neT h0; have g1:=neT h1; have g2:=neF h2; have g3:=of_decide_eq_false h3; have g4:=of_decide_eq_true h4; exact G6 (zk6 hk) ⟨h0,h1,h2,h3,h4,x3 (zW (by omega) (by omega))⟩
     | false =>
      cases h5:(decide ((↑c.length:Int) > (0:Int))) with
      | true =>
       have g0:=neT h0; have g1:=neT h1; have g2:=neF h2; have g3:=of_decide_eq_false h3; have g4:=of_decide_eq_false h4; have g5:=of_decide_eq_true h5; exact G6 (zhX hk) ⟨h0,h1,h2,h3,h4,h5,x3 (zW (by omega) (by omega))⟩
      | false =>
       have g0:=neT h0; have g1:=neT h1; have g2:=neF h2; have g3:=of_decide_eq_false h3; have g4:=of_decide_eq_false h4; have g5:=of_decide_eq_false h5; exact G6 (ziN hk) ⟨h0,h1,h2,h3,h4,h5,congrArg (AV.int .i64) (wY (by omega) (by omega)).symm⟩
  | false =>
   cases h2:((!c==([]:List UInt8))) with
   | true =>
    have g0:=neT h0; have g1:=neF h1; have g2:=neT h2; exact G6 (zpN hk) ⟨h0,h1,h2,x2 (zaO (by omega))⟩
   | false =>
    cases h3:(decide ((↑a.length:Int) > (64:Int))) with
    | true =>
     have g0:=neT h0; have g1:=neF h1; have g2:=neF h2; have g3:=of_decide_eq_true h3; exact G6 (zmX hk) ⟨h0,h1,h2,h3,x3 (zW (by omega) (by omega))⟩
    | false =>
     cases h4:(decide ((↑b.length:Int) > (200:Int))) with
     | true =>
      have g0:=neT h0; have g1:=neF h1; have g2:=neF h2; have g3:=of_decide_eq_false h3; have g4:=of_decide_eq_true h4; exact G6 (zki hk) ⟨h0,h1,h2,h3,h4,x3 (zW (by omega) (by omega))⟩
     | false =>
      cases h5:(decide ((↑c.length:Int) > (0:Int))) with
      | true =>
       have g0:=neT h0; have g1:=neF h1; have g2:=neF h2; have g3:=of_decide_eq_false h3; have g4:=of_decide_eq_false h4; have g5:=of_decide_eq_true h5; exact G6 (zhN hk) ⟨h0,h1,h2,h3,h4,h5,x3 (zW (by omega) (by omega))⟩
      | false =>
       have g0:=neT h0; have g1:=neF h1; have g2:=neF h2; have g3:=of_decide_eq_false h3; have g4:=of_decide_eq_false h4; have g5:=of_decide_eq_false h5; exact G6 (zjB hk) ⟨h0,h1,h2,h3,h4,h5,congrArg (AV.int .i64) (wY (by omega) (by omega)).symm⟩
 | false =>
  cases h1:((!b==([]:List UInt8))) with
  | true =>
   cases h2:((!c==([]:List UInt8))) with
   | true =>
    have g0:=neF h0; have g1:=neT h1; have g2:=neT h2; exact G6 (zpa hk) ⟨h0,h1,h2,x2 (zaO (by omega))⟩
   | false =>
    cases h3:(decide ((↑a.length:Int) > (64:Int))) with
    | true =>
     have g0:=neF h0; have g1:=neT h1; have g2:=neF h2; have g3:=of_decide_eq_true h3; exact G6 (znI hk) ⟨h0,h1,h2,h3,x3 (zW (by omega) (by omega))⟩
    | false =>
     cases h4:(decide ((↑b.length:Int) > (200:Int))) with
     | true =>
      have g0:=neF h0; have g1:=neT h1; have g2:=neF h2; have g3:=of_decide_eq_false h3; have g4:=of_decide_eq_true h4; exact G6 (zkl hk) ⟨h0,h1,h2,h3,h4,x3 (zW (by omega) (by omega))⟩
     | false =>
      cases h5:(decide ((↑c.length:Int) > (0:Int))) with
      | true =>
       have g0:=neF h0; have g1:=neT h1; have g2:=neF h2; have g3:=of_decide_eq_false h3; have g4:=of_decide_eq_false h4; have g5:=of_decide_eq_true h5; exact G6 (zif hk) ⟨h0,h1,h2,h3,h4,h5,x3 (zW (by omega) (by omega))⟩
      | false =>
       have g0:=neF h0; have g1:=neT h1; have g2:=neF h2; have g3:=of_decide_eq_false h3; have g4:=of_decide_eq_false h4; have g5:=of_decide_eq_false h5; exact G6 (ziA hk) ⟨h0,h1,h2,h3,h4,h5,congrArg (AV.int .i64) (wY (by omega) (by omega)).symm⟩
  | false =>
   cases h2:((!c==([]:List UInt8))) with
   | true =>
    have g0:=neF h0; have g1:=neF h1; have g2:=neT h2; exact G6 (zo7 hk) ⟨h0,h1,h2,x2 (zaO (by omega))⟩
   | false =>
    cases h3:(decide ((↑a.length:Int) > (64:Int))) with
    | true =>
     have g0:=neF h0; have g1:=neF h1; have g2:=neF h2; have g3:=of_decide_eq_true h3; exact G6 (zna hk) ⟨h0,h1,h2,h3,x3 (zW (by omega) (by omega))⟩
    | false =>
     cases h4:(decide ((↑b.length:Int) > (200:Int))) with
     | true =>
      have g0:=neF h0; have g1:=neF h1; have g2:=neF h2; have g3:=of_decide_eq_false h3; have g4:=of_decide_eq_true h4; exact G6 (zlD hk) ⟨h0,h1,h2,h3,h4,x3 (zW (by omega) (by omega))⟩
     | false =>
      cases h5:(decide ((↑c.length:Int) > (0:Int))) with
      | true =>
       have g0:=neF h0; have g1:=neF h1; have g2:=neF h2; have g3:=of_decide_eq_false h3; have g4:=of_decide_eq_false h4; have g5:=of_decide_eq_true h5; exact G6 (zig hk) ⟨h0,h1,h2,h3,h4,h5,x3 (zW (by omega) (by omega))⟩
      | false =>
       have g0:=neF h0; have g1:=neF h1; have g2:=neF h2; have g3:=of_decide_eq_false h3; have g4:=of_decide_eq_false h4; have g5:=of_decide_eq_false h5; exact G6 (ziC hk) ⟨h0,h1,h2,h3,h4,h5,congrArg (AV.int .i64) (wY (by omega) (by omega)).symm⟩
end
theorem ckky (R:AV→Prop)(k:Int)(a b c:List UInt8)(_K:AM→Prop):Obl P 64 (fun v _=>R v) 0 _K [.run 36,.know 17 true,.run 128,.done] ((zb P 64 [.agg [.int .i64 k,.str a,.str b,.str c]] GW))=((decide (k<(1:Int))=true)∧(R (.int .i64 2))):=by kernel_rfl
theorem zno (R:AV→Prop)(k:Int)(a b c:List UInt8)(_K:AM→Prop):Obl P 64 (fun v _=>R v) 0 _K [.run 36,.know 17 false,.run 4,.know 20 true,.run 124,.done] ((zb P 64 [.agg [.int .i64 k,.str a,.str b,.str c]] GW))=((decide (k<(1:Int))=false)∧(decide (k > (9:Int))=true)∧(R (.int .i64 2))):=by kernel_rfl
theorem zlJ (k:Int)(a b c:List UInt8):Goal P 0 64 (fun v _=>v=.int .i64 (chk k a b c)) (zb P 64 [.agg [.int .i64 k,.str a,.str b,.str c]] GW):=by
 by_cases h1:k<1
 · exact (oh (ckky _ k a b c _).symm ⟨decide_eq_true h1,congrArg (AV.int .i64) (if_pos (.inl h1)).symm⟩)
 by_cases h9:k > 9
 · exact (oh (zno _ k a b c _).symm ⟨decide_eq_false h1,decide_eq_true h9,congrArg (AV.int .i64) (if_pos (.inr h9)).symm⟩)
 have hk:k=1∨k=2∨k=3∨k=4∨k=5∨k=6∨k=7∨k=8∨k=9:=by omega
 rcases hk with rfl | rfl | rfl | rfl | rfl | rfl | rfl | rfl | rfl
 · exact zms (rfl)
 · exact zfu (.inl rfl)
 · exact zfY (.inl rfl)
 · exact zhI (.inl rfl)
 · exact zfY (.inr (.inl rfl))
 · exact zhI (.inr rfl)
 · exact zfu (.inr (.inl rfl))
 · exact zfu (.inr (.inr rfl))
 · exact zfY (.inr (.inr rfl))
end Go.Proofs.YtdbfpjgnlfejmaaDoor.mq
end
