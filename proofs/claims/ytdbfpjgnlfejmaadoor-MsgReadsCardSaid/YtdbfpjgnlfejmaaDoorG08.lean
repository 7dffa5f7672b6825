import Derived.Test.YtdbfpjgnlfejmaaDoorG00
import Derived.Test.YtdbfpjgnlfejmaaDoorG01
import Derived.Test.YtdbfpjgnlfejmaaDoorG02
import Derived.Test.YtdbfpjgnlfejmaaDoorG03
import Derived.Test.YtdbfpjgnlfejmaaDoorG04
import Derived.Test.YtdbfpjgnlfejmaaDoorG05
import Derived.Test.YtdbfpjgnlfejmaaDoorG06
import Derived.Test.YtdbfpjgnlfejmaaDoorG07
section
set_option maxRecDepth 100000
set_option linter.unusedVariables false
namespace Go.Proofs.YtdbfpjgnlfejmaaDoor.dg
open Go Ev mq
noncomputable abbrev HR0 (G:T (T AV)):AHeap:=⟨(.node .leaf (some (.cells (.node (.node (.node .leaf (some (.nils 0 0)) .leaf) (some (.str [])) .leaf) (some (.int .i64 0)) (.node (.node .leaf (some (.int .u64 0)) .leaf) (some (.nils 0 0)) .leaf)) 5 45 0 0 1 0 false .leaf)) .leaf),1,G⟩
noncomputable def AN (A:AV) (s:List UInt8) (G:T (T AV)):AM:=⟨⟨25,58,(.node (.node (.node .leaf none (.node .leaf (some (.ptr 1 0 0)) .leaf)) none .leaf) none (.node .leaf (some (.ptr 0 0 0)) .leaf)),
 [.ops (rg P 25 [1,0]).toList ((rg P 25 [1,0]).toList.drop 2),.code (cd P (25:Nat) [(1:Nat),(1:Nat)])],[],.run,CallKind.normal,none⟩,
 [],
 ⟨(.node (.node .leaf (some (.cells (.node (.node .leaf (some (.bool false)) .leaf) (some A) .leaf) 2 101 0 0 1 0 false .leaf)) .leaf) (some (.cells (.node (.node (.node .leaf (some (.nils 0 0)) .leaf) (some (.str [])) .leaf) (some (.int .i64 0)) (.node (.node .leaf (some (.int .u64 0)) .leaf) (some (.nils 0 0)) .leaf)) 5 45 0 0 1 0 false .leaf)) (.node .leaf (some (.cells (.fn fun j=>some (AV.int IntKind.u8 (yy s j))) s.length 5 0 0 1 0 true .leaf)) .leaf)),3,G⟩⟩
noncomputable def ALA (s t:List UInt8) (n k i:Int) (x y:Nat) (G:T (T AV)):AM:=⟨⟨25,58,(.node (.node (.node (.node .leaf none (.node .leaf (some (.int .u64 k)) .leaf)) none .leaf) none .leaf) none (.node (.node (.node .leaf none (.node .leaf (some (.int .u64 i)) .leaf)) (some (.ptr 1 0 0)) .leaf) (some (.ptr 0 0 0)) (.node .leaf (some (.ptr 2 0 0)) .leaf))),
 [.code (cd P (25:Nat) [(1:Nat),(1:Nat),(1:Nat),(1:Nat),(1:Nat),(0:Nat),(1:Nat),(0:Nat),(0:Nat)]),.inLoop (cd P (25:Nat) [(1:Nat),(1:Nat),(1:Nat),(1:Nat),(1:Nat),(0:Nat),(1:Nat),(0:Nat),(0:Nat)]),.inBlock 0,.code (cd P (25:Nat) [(1:Nat),(1:Nat),(1:Nat),(1:Nat),(1:Nat),(1:Nat)])],[],.run,CallKind.normal,none⟩,
 [],
 ⟨(.node (.node (.node .leaf (some (.cells (.fn fun j=>some (.int .u8 (yy s j))) s.length 5 0 0 1 0 true .leaf)) .leaf) (some (.cells (.node (.node .leaf (some (.bool false)) .leaf) (some (.slc 3 0 y x x)) .leaf) 2 101 0 0 1 0 false .leaf)) .leaf) (some (.cells (.node (.node (.node .leaf (some (.nils 0 0)) .leaf) (some (.str [])) .leaf) (some (.int .i64 0)) (.node (.node .leaf (some (.int .u64 0)) .leaf) (some (.nils 0 0)) .leaf)) 5 45 0 0 1 0 false .leaf)) (.node .leaf (some (.cells (.node (.node (.node .leaf (some (.nils 0 0)) .leaf) (some (.str t)) .leaf) (some (.int .i64 n)) (.node (.node .leaf (some (.int .u64 0)) .leaf) (some (.nils 0 0)) .leaf)) 5 45 0 0 1 0 false .leaf)) .leaf)),4,G⟩⟩
noncomputable def ALB (pc:Nat→AV) (s t:List UInt8) (n k i:Int) (x y m z:Nat) (G:T (T AV)):AM:=⟨⟨25,58,(.node (.node (.node (.node .leaf none (.node .leaf (some (.int .u64 k)) .leaf)) none .leaf) none .leaf) none (.node (.node (.node .leaf none (.node .leaf (some (.int .u64 i)) .leaf)) (some (.ptr 1 0 0)) .leaf) (some (.ptr 0 0 0)) (.node .leaf (some (.ptr 2 0 0)) .leaf))),
 [.code (cd P (25:Nat) [(1:Nat),(1:Nat),(1:Nat),(1:Nat),(1:Nat),(0:Nat),(1:Nat),(0:Nat),(0:Nat)]),.inLoop (cd P (25:Nat) [(1:Nat),(1:Nat),(1:Nat),(1:Nat),(1:Nat),(0:Nat),(1:Nat),(0:Nat),(0:Nat)]),.inBlock 0,.code (cd P (25:Nat) [(1:Nat),(1:Nat),(1:Nat),(1:Nat),(1:Nat),(1:Nat)])],[],.run,CallKind.normal,none⟩,
 [],
 ⟨(.node (.node (.node .leaf (some (.cells (.fn fun j=>some (.int .u8 (yy s j))) s.length 5 0 0 1 0 true .leaf)) .leaf) (some (.cells (.node (.node .leaf (some (.bool false)) .leaf) (some (.slc 3 0 y x x)) .leaf) 2 101 0 0 1 0 false .leaf)) .leaf) (some (.cells (.node (.node (.node .leaf (some (.nils 0 0)) .leaf) (some (.str [])) .leaf) (some (.int .i64 0)) (.node (.node .leaf (some (.int .u64 0)) .leaf) (some (.nils 0 0)) .leaf)) 5 45 0 0 1 0 false .leaf)) (.node (.node .leaf (some (.cells (.fn fun c=>some (pc c)) z 9 0 0 1 0 false .leaf)) .leaf) (some (.cells (.node (.node (.node .leaf (some (.nils 0 0)) .leaf) (some (.str t)) .leaf) (some (.int .i64 n)) (.node (.node .leaf (some (.int .u64 0)) .leaf) (some (.slg 4 0 0 m 0)) .leaf)) 5 45 0 0 1 0 false .leaf)) .leaf)),5,G⟩⟩
theorem a0 (R:AV→AHeap→Prop)(s:List UInt8)(G:T (T AV))(K:AM→Prop):Obl P 25 (fun v h=>R v h) 0 K [.run 9,.callh [] [0] (.ptr 1 0 0) (RN s G),.can 0 [0,2,1] [2,11] []] ((zb P 25 [.str s] G))=((za fun j=>some (.int .u8 (yy s j)))∧(Goal P 0 54 (fun v h=>v=AV.ptr 1 0 0∧h=RN s G) (zb P 54 [.str s] G))∧(za fun j=>some (.int .u8 (yy s j)))∧K (AN (.slg 2 0 0 s.length 0) s G)):=by kernel_rfl
theorem aE (R:AV→AHeap→Prop)(G:T (T AV))(_K:AM→Prop):Obl P 25 (fun v h=>R v h) 0 _K [.run 873,.can 0 [0] [2,3] [],.run 1,.done] ((zb P 25 [.str []] G))=((R (.tup [.agg [.int .i64 0,.str [],.nils 0 0,.nils 0 0,.int .u64 0],.int .i64 4]) ((HR0 G)))):=by kernel_rfl
theorem s1 (R:AV→AHeap→Prop)(s:List UInt8)(x cp:Nat)(G:T (T AV))(_K:AM→Prop):Obl P 25 (fun v h=>R v h) 0 _K [.run 6,.callh [(1,0,[]),(2,0,[0])] [0] (.int .u64 0) (RZ s G),.run 16,.callh [(1,0,[])] [0] (.str []) (RB G),.run 9,.callh [(1,0,[])] [0] (.int .u64 0) (RB G),.run 15,.callh [(1,0,[])] [0] (.str []) (RB G),.run 1,.callh [] [0] (.tup [.nils 0 0,.int .i64 4]) ⟨.leaf,0,G⟩,.run 11,.callh [(1,0,[])] [0] (.int .u64 0) (RB G),.run 23,.can 0 [0] [2,3] [],.run 1,.done] ((AN (.slc 2 0 0 x cp) s G))=((za fun j=>some (.int .u8 (yy s j)))∧(za fun j=>some (.int .u8 (yy s j)))∧(Goal P 2 55 (fun v h=>v=AV.int .u64 (0:Int)∧h=RZ s G) (ze P 55 [.ptr 0 0 0] (RG s 0 x cp G)))∧(Goal P 1 56 (fun v h=>v=AV.str []∧h=RB G) (ze P 56 [.ptr 0 0 0] (RB G)))∧(Goal P 1 55 (fun v h=>v=AV.int .u64 (0:Int)∧h=RB G) (ze P 55 [.ptr 0 0 0] (RB G)))∧(Goal P 1 56 (fun v h=>v=AV.str []∧h=RB G) (ze P 56 [.ptr 0 0 0] (RB G)))∧(Goal P 0 19 (fun v h=>v=AV.tup [AV.nils 0 0,AV.int .i64 (4:Int)]∧h={ objs:=T.leaf,next:=0,glob:=G }) (zb P 19 [.str []] G))∧(Goal P 1 55 (fun v h=>v=AV.int .u64 (0:Int)∧h=RB G) (ze P 55 [.ptr 0 0 0] (RB G)))∧(R (.tup [.agg [.int .i64 0,.str [],.nils 0 0,.nils 0 0,.int .u64 0],.int .i64 4]) ((HR0 G)))):=by kernel_rfl
theorem s2 (R:AV→AHeap→Prop)(s:List UInt8)(n:Int)(x cp x1 y1:Nat)(G:T (T AV))(_K:AM→Prop):Obl P 25 (fun v h=>R v h) 0 _K [.run 6,.callh [(1,0,[]),(2,0,[0])] [0] (.int .u64 n) (RG s y1 x1 x1 G),.run 8,.know 15 true,.run 7,.can 0 [0] [2,3] [],.run 1,.done] ((AN (.slc 2 0 0 x cp) s G))=((za fun j=>some (.int .u8 (yy s j)))∧(za fun j=>some (.int .u8 (yy s j)))∧(Goal P 2 55 (fun v h=>v=AV.int .u64 n∧h=RG s y1 x1 x1 G) (ze P 55 [.ptr 0 0 0] (RG s 0 x cp G)))∧(decide (n > (14:Int))=true)∧(R (.tup [.agg [.int .i64 0,.str [],.nils 0 0,.nils 0 0,.int .u64 0],.int .i64 4]) ((HR0 G)))):=by kernel_rfl
theorem s3 (R:AV→AHeap→Prop)(s:List UInt8)(n:Int)(x cp x1 y1:Nat)(G:T (T AV))(_K:AM→Prop):Obl P 25 (fun v h=>R v h) 0 _K [.run 6,.callh [(1,0,[]),(2,0,[0])] [0] (.int .u64 n) (RG s y1 x1 x1 G),.run 8,.know 15 false,.run 8,.callh [(1,0,[]),(2,0,[0])] [0] (.str []) (RZ s G),.run 9,.callh [(1,0,[])] [0] (.int .u64 0) (RB G),.run 15,.callh [(1,0,[])] [0] (.str []) (RB G),.run 1,.callh [] [0] (.tup [.nils 0 0,.int .i64 4]) ⟨.leaf,0,G⟩,.run 11,.callh [(1,0,[])] [0] (.int .u64 0) (RB G),.run 23,.can 0 [0] [2,3] [],.run 1,.done] ((AN (.slc 2 0 0 x cp) s G))=((za fun j=>some (.int .u8 (yy s j)))∧(za fun j=>some (.int .u8 (yy s j)))∧(Goal P 2 55 (fun v h=>v=AV.int .u64 n∧h=RG s y1 x1 x1 G) (ze P 55 [.ptr 0 0 0] (RG s 0 x cp G)))∧(decide (n > (14:Int))=false)∧(za fun j=>some (.int .u8 (yy s j)))∧(za fun j=>some (.int .u8 (yy s j)))∧(Goal P 2 56 (fun v h=>v=AV.str []∧h=RZ s G) (ze P 56 [.ptr 0 0 0] (RG s y1 x1 x1 G)))∧(Goal P 1 55 (fun v h=>v=AV.int .u64 (0:Int)∧h=RB G) (ze P 55 [.ptr 0 0 0] (RB G)))∧(Goal P 1 56 (fun v h=>v=AV.str []∧h=RB G) (ze P 56 [.ptr 0 0 0] (RB G)))∧(Goal P 0 19 (fun v h=>v=AV.tup [AV.nils 0 0,AV.int .i64 (4:Int)]∧h={ objs:=T.leaf,next:=0,glob:=G }) (zb P 19 [.str []] G))∧(Goal P 1 55 (fun v h=>v=AV.int .u64 (0:Int)∧h=RB G) (ze P 55 [.ptr 0 0 0] (RB G)))∧(R (.tup [.agg [.int .i64 0,.str [],.nils 0 0,.nils 0 0,.int .u64 0],.int .i64 4]) ((HR0 G)))):=by kernel_rfl
theorem s4 (R:AV→AHeap→Prop)(s t:List UInt8)(n:Int)(x cp x1 y1 x2 y2:Nat)(G:T (T AV))(_K:AM→Prop):Obl P 25 (fun v h=>R v h) 0 _K [.run 6,.callh [(1,0,[]),(2,0,[0])] [0] (.int .u64 n) (RG s y1 x1 x1 G),.run 8,.know 15 false,.run 8,.callh [(1,0,[]),(2,0,[0])] [0] (.str t) (RG s y2 x2 x2 G),.run 9,.callh [(1,0,[]),(2,0,[0])] [0] (.int .u64 0) (RZ s G),.run 15,.callh [(1,0,[])] [0] (.str []) (RB G),.run 1,.callh [] [0] (.tup [.nils 0 0,.int .i64 4]) ⟨.leaf,0,G⟩,.run 11,.callh [(1,0,[])] [0] (.int .u64 0) (RB G),.run 23,.can 0 [0] [2,3] [],.run 1,.done] ((AN (.slc 2 0 0 x cp) s G))=((za fun j=>some (.int .u8 (yy s j)))∧(za fun j=>some (.int .u8 (yy s j)))∧(Goal P 2 55 (fun v h=>v=AV.int .u64 n∧h=RG s y1 x1 x1 G) (ze P 55 [.ptr 0 0 0] (RG s 0 x cp G)))∧(decide (n > (14:Int))=false)∧(za fun j=>some (.int .u8 (yy s j)))∧(za fun j=>some (.int .u8 (yy s j)))∧(Goal P 2 56 (fun v h=>v=AV.str t∧h=RG s y2 x2 x2 G) (ze P 56 [.ptr 0 0 0] (RG s y1 x1 x1 G)))∧(za fun j=>some (.int .u8 (yy s j)))∧(za fun j=>some (.int .u8 (yy s j)))∧(Goal P 2 55 (fun v h=>v=AV.int .u64 (0:Int)∧h=RZ s G) (ze P 55 [.ptr 0 0 0] (RG s y2 x2 x2 G)))∧(Goal P 1 56 (fun v h=>v=AV.str []∧h=RB G) (ze P 56 [.ptr 0 0 0] (RB G)))∧(Goal P 0 19 (fun v h=>v=AV.tup [AV.nils 0 0,AV.int .i64 (4:Int)]∧h={ objs:=T.leaf,next:=0,glob:=G }) (zb P 19 [.str []] G))∧(Goal P 1 55 (fun v h=>v=AV.int .u64 (0:Int)∧h=RB G) (ze P 55 [.ptr 0 0 0] (RB G)))∧(R (.tup [.agg [.int .i64 0,.str [],.nils 0 0,.nils 0 0,.int .u64 0],.int .i64 4]) ((HR0 G)))):=by kernel_rfl
theorem s5 (R:AV→AHeap→Prop)(s t:List UInt8)(n k:Int)(x cp x1 y1 x2 y2 x3 y3:Nat)(G:T (T AV))(K:AM→Prop):Obl P 25 (fun v h=>R v h) 0 K [.run 6,.callh [(1,0,[]),(2,0,[0])] [0] (.int .u64 n) (RG s y1 x1 x1 G),.run 8,.know 15 false,.run 8,.callh [(1,0,[]),(2,0,[0])] [0] (.str t) (RG s y2 x2 x2 G),.run 9,.callh [(1,0,[]),(2,0,[0])] [0] (.int .u64 k) (RG s y3 x3 x3 G),.run 4,.can 0 [0,1,3,2] [2,4,6,23,24] []] ((AN (.slc 2 0 0 x cp) s G))=((za fun j=>some (.int .u8 (yy s j)))∧(za fun j=>some (.int .u8 (yy s j)))∧(Goal P 2 55 (fun v h=>v=AV.int .u64 n∧h=RG s y1 x1 x1 G) (ze P 55 [.ptr 0 0 0] (RG s 0 x cp G)))∧(decide (n > (14:Int))=false)∧(za fun j=>some (.int .u8 (yy s j)))∧(za fun j=>some (.int .u8 (yy s j)))∧(Goal P 2 56 (fun v h=>v=AV.str t∧h=RG s y2 x2 x2 G) (ze P 56 [.ptr 0 0 0] (RG s y1 x1 x1 G)))∧(za fun j=>some (.int .u8 (yy s j)))∧(za fun j=>some (.int .u8 (yy s j)))∧(Goal P 2 55 (fun v h=>v=AV.int .u64 k∧h=RG s y3 x3 x3 G) (ze P 55 [.ptr 0 0 0] (RG s y2 x2 x2 G)))∧(za fun j=>some (.int .u8 (yy s j)))∧K (ALA s t (IntKind.i64.wrap n) k (Int.ofNat 0) x3 y3 G)):=by kernel_rfl
theorem lAg (R:AV→AHeap→Prop)(pc':Nat→AV)(s t p:List UInt8)(n k i:Int)(x y x2 y2 z':Nat)(G:T (T AV))(K:AM→Prop):Obl P 25 (fun v h=>R v h) 0 K [.run 5,.know 25 true,.run 8,.callh [(1,0,[]),(3,0,[0])] [0] (.str p) (RG s y2 x2 x2 G),.run 45,.told 5 (.fn fun j=>some (pc' j)) z',.can 0 [0,1,2,3,5] [2,4,6,23,24] []] ((ALA s t n k i x y G))=((decide (i<k)=true)∧(za fun j=>some (.int .u8 (yy s j)))∧(za fun j=>some (.int .u8 (yy s j)))∧(Goal P 2 56 (fun v h=>v=AV.str p∧h=RG s y2 x2 x2 G) (ze P 56 [.ptr 0 0 0] (RG s y x x G)))∧(xZ (z') ((.fn fun j=>some (pc' j))) ((.node .leaf (some (.str p)) .leaf)))∧(z'=1)∧(za fun j=>some (.int .u8 (yy s j)))∧(za fun j=>some (pc' j))∧K (ALB pc' s t n k (IntKind.u64.wrap (i+(1:Int))) x2 y2 1 z' G)):=by kernel_rfl
theorem lAb (R:AV→AHeap→Prop)(s t:List UInt8)(n k i:Int)(x y:Nat)(G:T (T AV))(_K:AM→Prop):Obl P 25 (fun v h=>R v h) 0 _K [.run 5,.know 25 true,.run 8,.callh [(1,0,[]),(3,0,[0])] [0] (.str []) (RZ s G),.run 34,.callh [(1,0,[])] [0] (.str []) (RB G),.run 1,.callh [] [0] (.tup [.nils 0 0,.int .i64 4]) ⟨.leaf,0,G⟩,.run 11,.callh [(1,0,[])] [0] (.int .u64 0) (RB G),.run 23,.can 0 [0] [2,3] [],.run 1,.done] ((ALA s t n k i x y G))=((decide (i<k)=true)∧(za fun j=>some (.int .u8 (yy s j)))∧(za fun j=>some (.int .u8 (yy s j)))∧(Goal P 2 56 (fun v h=>v=AV.str []∧h=RZ s G) (ze P 56 [.ptr 0 0 0] (RG s y x x G)))∧(Goal P 1 56 (fun v h=>v=AV.str []∧h=RB G) (ze P 56 [.ptr 0 0 0] (RB G)))∧(Goal P 0 19 (fun v h=>v=AV.tup [AV.nils 0 0,AV.int .i64 (4:Int)]∧h={ objs:=T.leaf,next:=0,glob:=G }) (zb P 19 [.str []] G))∧(Goal P 1 55 (fun v h=>v=AV.int .u64 (0:Int)∧h=RB G) (ze P 55 [.ptr 0 0 0] (RB G)))∧(R (.tup [.agg [.int .i64 0,.str [],.nils 0 0,.nils 0 0,.int .u64 0],.int .i64 4]) ((HR0 G)))):=by kernel_rfl
theorem eA1 (R:AV→AHeap→Prop)(s t:List UInt8)(n k i:Int)(x y:Nat)(G:T (T AV))(_K:AM→Prop):Obl P 25 (fun v h=>R v h) 0 _K [.run 5,.know 25 false,.run 6,.callh [(1,0,[]),(3,0,[0])] [0] (.str []) (RZ s G),.run 1,.callh [] [0] (.tup [.nils 0 0,.int .i64 4]) ⟨.leaf,0,G⟩,.run 11,.callh [(1,0,[])] [0] (.int .u64 0) (RB G),.run 23,.can 0 [0] [2,3] [],.run 1,.done] ((ALA s t n k i x y G))=((decide (i<k)=false)∧(za fun j=>some (.int .u8 (yy s j)))∧(za fun j=>some (.int .u8 (yy s j)))∧(Goal P 2 56 (fun v h=>v=AV.str []∧h=RZ s G) (ze P 56 [.ptr 0 0 0] (RG s y x x G)))∧(Goal P 0 19 (fun v h=>v=AV.tup [AV.nils 0 0,AV.int .i64 (4:Int)]∧h={ objs:=T.leaf,next:=0,glob:=G }) (zb P 19 [.str []] G))∧(Goal P 1 55 (fun v h=>v=AV.int .u64 (0:Int)∧h=RB G) (ze P 55 [.ptr 0 0 0] (RB G)))∧(R (.tup [.agg [.int .i64 0,.str [],.nils 0 0,.nils 0 0,.int .u64 0],.int .i64 4]) ((HR0 G)))):=by kernel_rfl
theorem eA2 (R:AV→AHeap→Prop)(s t u:List UInt8)(n k i nu:Int)(x y x2 y2 x3 y3:Nat)(G:T (T AV))(_K:AM→Prop):Obl P 25 (fun v h=>R v h) 0 _K [.run 5,.know 25 false,.run 6,.callh [(1,0,[]),(3,0,[0])] [0] (.str u) (RG s y2 x2 x2 G),.run 1,.callh [] [0] (.tup [.nils 0 0,.int .i64 4]) ⟨.leaf,0,G⟩,.run 11,.callh [(1,0,[]),(3,0,[0])] [0] (.int .u64 nu) (RG s y3 x3 x3 G),.run 23,.can 0 [0] [2,3] [],.run 1,.done] ((ALA s t n k i x y G))=((decide (i<k)=false)∧(za fun j=>some (.int .u8 (yy s j)))∧(za fun j=>some (.int .u8 (yy s j)))∧(Goal P 2 56 (fun v h=>v=AV.str u∧h=RG s y2 x2 x2 G) (ze P 56 [.ptr 0 0 0] (RG s y x x G)))∧(Goal P 0 19 (fun v h=>v=AV.tup [AV.nils 0 0,AV.int .i64 (4:Int)]∧h={ objs:=T.leaf,next:=0,glob:=G }) (zb P 19 [.str u] G))∧(za fun j=>some (.int .u8 (yy s j)))∧(za fun j=>some (.int .u8 (yy s j)))∧(Goal P 2 55 (fun v h=>v=AV.int .u64 nu∧h=RG s y3 x3 x3 G) (ze P 55 [.ptr 0 0 0] (RG s y2 x2 x2 G)))∧(R (.tup [.agg [.int .i64 0,.str [],.nils 0 0,.nils 0 0,.int .u64 0],.int .i64 4]) ((HR0 G)))):=by kernel_rfl
theorem eA3 (R:AV→AHeap→Prop)(s t u:List UInt8)(n k i:Int)(x y x2 y2:Nat)(G:T (T AV))(_K:AM→Prop):Obl P 25 (fun v h=>R v h) 0 _K [.run 5,.know 25 false,.run 6,.callh [(1,0,[]),(3,0,[0])] [0] (.str u) (RG s y2 x2 x2 G),.run 1,.callh [] [0] (.tup [.nils 0 0,.int .i64 4]) ⟨.leaf,0,G⟩,.run 11,.callh [(1,0,[]),(3,0,[0])] [0] (.int .u64 0) (RZ s G),.run 23,.can 0 [0] [2,3] [],.run 1,.done] ((ALA s t n k i x y G))=((decide (i<k)=false)∧(za fun j=>some (.int .u8 (yy s j)))∧(za fun j=>some (.int .u8 (yy s j)))∧(Goal P 2 56 (fun v h=>v=AV.str u∧h=RG s y2 x2 x2 G) (ze P 56 [.ptr 0 0 0] (RG s y x x G)))∧(Goal P 0 19 (fun v h=>v=AV.tup [AV.nils 0 0,AV.int .i64 (4:Int)]∧h={ objs:=T.leaf,next:=0,glob:=G }) (zb P 19 [.str u] G))∧(za fun j=>some (.int .u8 (yy s j)))∧(za fun j=>some (.int .u8 (yy s j)))∧(Goal P 2 55 (fun v h=>v=AV.int .u64 (0:Int)∧h=RZ s G) (ze P 55 [.ptr 0 0 0] (RG s y2 x2 x2 G)))∧(R (.tup [.agg [.int .i64 0,.str [],.nils 0 0,.nils 0 0,.int .u64 0],.int .i64 4]) ((HR0 G)))):=by kernel_rfl
theorem eAnb (R:AV→AHeap→Prop)(s t u:List UInt8)(n k i:Int)(x y x2 y2:Nat)(G:T (T AV))(_K:AM→Prop):Obl P 25 (fun v h=>R v h) 0 _K [.run 5,.know 25 false,.run 6,.callh [(1,0,[]),(3,0,[0])] [0] (.str u) (RG s y2 x2 x2 G),.run 1,.callh [] [0] (.tup [.nils 0 0,.int .i64 0]) ⟨.leaf,0,G⟩,.run 11,.callh [(1,0,[]),(3,0,[0])] [0] (.int .u64 0) (RZ s G),.run 62,.can 0 [0] [2,3] [],.run 1,.done] ((ALA s t n k i x y G))=((decide (i<k)=false)∧(za fun j=>some (.int .u8 (yy s j)))∧(za fun j=>some (.int .u8 (yy s j)))∧(Goal P 2 56 (fun v h=>v=AV.str u∧h=RG s y2 x2 x2 G) (ze P 56 [.ptr 0 0 0] (RG s y x x G)))∧(Goal P 0 19 (fun v h=>v=AV.tup [AV.nils 0 0,AV.int .i64 (0:Int)]∧h={ objs:=T.leaf,next:=0,glob:=G }) (zb P 19 [.str u] G))∧(za fun j=>some (.int .u8 (yy s j)))∧(za fun j=>some (.int .u8 (yy s j)))∧(Goal P 2 55 (fun v h=>v=AV.int .u64 (0:Int)∧h=RZ s G) (ze P 55 [.ptr 0 0 0] (RG s y2 x2 x2 G)))∧(R (.tup [.agg [.int .i64 0,.str [],.nils 0 0,.nils 0 0,.int .u64 0],.int .i64 4]) ((HR0 G)))):=by kernel_rfl
theorem eAnx (R:AV→AHeap→Prop)(s t u:List UInt8)(n k i nu:Int)(x y x2 y2 x3 y3:Nat)(G:T (T AV))(_K:AM→Prop):Obl P 25 (fun v h=>R v h) 0 _K [.run 5,.know 25 false,.run 6,.callh [(1,0,[]),(3,0,[0])] [0] (.str u) (RG s y2 x2 x2 G),.run 1,.callh [] [0] (.tup [.nils 0 0,.int .i64 0]) ⟨.leaf,0,G⟩,.run 11,.callh [(1,0,[]),(3,0,[0])] [0] (.int .u64 nu) (RG s y3 x3 x3 G),.run 55,.know 55 true,.run 7,.can 0 [0] [2,3] [],.run 1,.done] ((ALA s t n k i x y G))=((decide (i<k)=false)∧(za fun j=>some (.int .u8 (yy s j)))∧(za fun j=>some (.int .u8 (yy s j)))∧(Goal P 2 56 (fun v h=>v=AV.str u∧h=RG s y2 x2 x2 G) (ze P 56 [.ptr 0 0 0] (RG s y x x G)))∧(Goal P 0 19 (fun v h=>v=AV.tup [AV.nils 0 0,AV.int .i64 (0:Int)]∧h={ objs:=T.leaf,next:=0,glob:=G }) (zb P 19 [.str u] G))∧(za fun j=>some (.int .u8 (yy s j)))∧(za fun j=>some (.int .u8 (yy s j)))∧(Goal P 2 55 (fun v h=>v=AV.int .u64 nu∧h=RG s y3 x3 x3 G) (ze P 55 [.ptr 0 0 0] (RG s y2 x2 x2 G)))∧((!(↑x3:Int)==(0:Int))=true)∧(R (.tup [.agg [.int .i64 0,.str [],.nils 0 0,.nils 0 0,.int .u64 0],.int .i64 4]) ((HR0 G)))):=by kernel_rfl
theorem eAnz (R:AV→AHeap→Prop)(s t u:List UInt8)(n k i nu:Int)(x y x2 y2 y3:Nat)(G:T (T AV))(_K:AM→Prop):Obl P 25 (fun v h=>R v h) 0 _K [.run 5,.know 25 false,.run 6,.callh [(1,0,[]),(3,0,[0])] [0] (.str u) (RG s y2 x2 x2 G),.run 1,.callh [] [0] (.tup [.nils 0 0,.int .i64 0]) ⟨.leaf,0,G⟩,.run 11,.callh [(1,0,[]),(3,0,[0])] [0] (.int .u64 nu) (RG s y3 0 0 G),.run 63,.can 0 [0] [2,3] [],.run 1,.done] ((ALA s t n k i x y G))=((decide (i<k)=false)∧(za fun j=>some (.int .u8 (yy s j)))∧(za fun j=>some (.int .u8 (yy s j)))∧(Goal P 2 56 (fun v h=>v=AV.str u∧h=RG s y2 x2 x2 G) (ze P 56 [.ptr 0 0 0] (RG s y x x G)))∧(Goal P 0 19 (fun v h=>v=AV.tup [AV.nils 0 0,AV.int .i64 (0:Int)]∧h={ objs:=T.leaf,next:=0,glob:=G }) (zb P 19 [.str u] G))∧(za fun j=>some (.int .u8 (yy s j)))∧(za fun j=>some (.int .u8 (yy s j)))∧(Goal P 2 55 (fun v h=>v=AV.int .u64 nu∧h=RG s y3 0 0 G) (ze P 55 [.ptr 0 0 0] (RG s y2 x2 x2 G)))∧(R (.tup [.agg [.int .i64 n,.str t,.nils 0 0,.nils 0 0,.int .u64 nu],.int .i64 0]) (⟨(.node .leaf (some (.cells (.node (.node (.node .leaf (some (.nils 0 0)) .leaf) (some (.str t)) .leaf) (some (.int .i64 n)) (.node (.node .leaf (some (.int .u64 nu)) .leaf) (some (.nils 0 0)) .leaf)) 5 45 0 0 1 0 false .leaf)) .leaf),1,G⟩))):=by kernel_rfl
theorem eArb (R:AV→AHeap→Prop)(cell:Nat→AV)(s t u:List UInt8)(n k i:Int)(x y x2 y2 m' zd:Nat)(G:T (T AV))(_K:AM→Prop):Obl P 25 (fun v h=>R v h) 0 _K [.run 5,.know 25 false,.run 6,.callh [(1,0,[]),(3,0,[0])] [0] (.str u) (RG s y2 x2 x2 G),.run 1,.callh [] [0] (.tup [.slg 0 0 0 m' 0,.int .i64 0]) ⟨(.node .leaf (some (.cells (.fn fun j=>some (cell j)) zd 35 0 0 1 0 false .leaf)) .leaf),1,G⟩,.run 11,.callh [(1,0,[]),(3,0,[0])] [0] (.int .u64 0) (RZ s G),.run 62,.can 0 [0] [2,3] [],.run 1,.done] ((ALA s t n k i x y G))=((decide (i<k)=false)∧(za fun j=>some (.int .u8 (yy s j)))∧(za fun j=>some (.int .u8 (yy s j)))∧(Goal P 2 56 (fun v h=>v=AV.str u∧h=RG s y2 x2 x2 G) (ze P 56 [.ptr 0 0 0] (RG s y x x G)))∧(za fun j=>some (cell j))∧(Goal P 0 19 (fun v h=>v=AV.tup [AV.slg 0 0 0 m' 0,AV.int .i64 (0:Int)]∧h={ objs:=T.leaf.node (some (AObj.cells (T.fn fun j=>some (cell j)) zd 35 0 0 1 0 false T.leaf)) T.leaf,next:=1,glob:=G }) (zb P 19 [.str u] G))∧(za fun j=>some (.int .u8 (yy s j)))∧(za fun j=>some (.int .u8 (yy s j)))∧(Goal P 2 55 (fun v h=>v=AV.int .u64 (0:Int)∧h=RZ s G) (ze P 55 [.ptr 0 0 0] (RG s y2 x2 x2 G)))∧(R (.tup [.agg [.int .i64 0,.str [],.nils 0 0,.nils 0 0,.int .u64 0],.int .i64 4]) ((HR0 G)))):=by kernel_rfl
theorem eArx (R:AV→AHeap→Prop)(cell:Nat→AV)(s t u:List UInt8)(n k i nu:Int)(x y x2 y2 x3 y3 m' zd:Nat)(G:T (T AV))(_K:AM→Prop):Obl P 25 (fun v h=>R v h) 0 _K [.run 5,.know 25 false,.run 6,.callh [(1,0,[]),(3,0,[0])] [0] (.str u) (RG s y2 x2 x2 G),.run 1,.callh [] [0] (.tup [.slg 0 0 0 m' 0,.int .i64 0]) ⟨(.node .leaf (some (.cells (.fn fun j=>some (cell j)) zd 35 0 0 1 0 false .leaf)) .leaf),1,G⟩,.run 11,.callh [(1,0,[]),(3,0,[0])] [0] (.int .u64 nu) (RG s y3 x3 x3 G),.run 55,.know 55 true,.run 7,.can 0 [0] [2,3] [],.run 1,.done] ((ALA s t n k i x y G))=((decide (i<k)=false)∧(za fun j=>some (.int .u8 (yy s j)))∧(za fun j=>some (.int .u8 (yy s j)))∧(Goal P 2 56 (fun v h=>v=AV.str u∧h=RG s y2 x2 x2 G) (ze P 56 [.ptr 0 0 0] (RG s y x x G)))∧(za fun j=>some (cell j))∧(Goal P 0 19 (fun v h=>v=AV.tup [AV.slg 0 0 0 m' 0,AV.int .i64 (0:Int)]∧h={ objs:=T.leaf.node (some (AObj.cells (T.fn fun j=>some (cell j)) zd 35 0 0 1 0 false T.leaf)) T.leaf,next:=1,glob:=G }) (zb P 19 [.str u] G))∧(za fun j=>some (.int .u8 (yy s j)))∧(za fun j=>some (.int .u8 (yy s j)))∧(Goal P 2 55 (fun v h=>v=AV.int .u64 nu∧h=RG s y3 x3 x3 G) (ze P 55 [.ptr 0 0 0] (RG s y2 x2 x2 G)))∧((!(↑x3:Int)==(0:Int))=true)∧(R (.tup [.agg [.int .i64 0,.str [],.nils 0 0,.nils 0 0,.int .u64 0],.int .i64 4]) ((HR0 G)))):=by kernel_rfl
theorem eArz (R:AV→AHeap→Prop)(cell:Nat→AV)(s t u:List UInt8)(n k i nu:Int)(x y x2 y2 y3 m' zd:Nat)(G:T (T AV))(_K:AM→Prop):Obl P 25 (fun v h=>R v h) 0 _K [.run 5,.know 25 false,.run 6,.callh [(1,0,[]),(3,0,[0])] [0] (.str u) (RG s y2 x2 x2 G),.run 1,.callh [] [0] (.tup [.slg 0 0 0 m' 0,.int .i64 0]) ⟨(.node .leaf (some (.cells (.fn fun j=>some (cell j)) zd 35 0 0 1 0 false .leaf)) .leaf),1,G⟩,.run 11,.callh [(1,0,[]),(3,0,[0])] [0] (.int .u64 nu) (RG s y3 0 0 G),.run 63,.can 0 [0,4] [2,3] [],.run 1,.done] ((ALA s t n k i x y G))=((decide (i<k)=false)∧(za fun j=>some (.int .u8 (yy s j)))∧(za fun j=>some (.int .u8 (yy s j)))∧(Goal P 2 56 (fun v h=>v=AV.str u∧h=RG s y2 x2 x2 G) (ze P 56 [.ptr 0 0 0] (RG s y x x G)))∧(za fun j=>some (cell j))∧(Goal P 0 19 (fun v h=>v=AV.tup [AV.slg 0 0 0 m' 0,AV.int .i64 (0:Int)]∧h={ objs:=T.leaf.node (some (AObj.cells (T.fn fun j=>some (cell j)) zd 35 0 0 1 0 false T.leaf)) T.leaf,next:=1,glob:=G }) (zb P 19 [.str u] G))∧(za fun j=>some (.int .u8 (yy s j)))∧(za fun j=>some (.int .u8 (yy s j)))∧(Goal P 2 55 (fun v h=>v=AV.int .u64 nu∧h=RG s y3 0 0 G) (ze P 55 [.ptr 0 0 0] (RG s y2 x2 x2 G)))∧(za fun j=>some (cell j))∧(R (.tup [.agg [.int .i64 n,.str t,.nils 0 0,.slg 1 0 0 m' 0,.int .u64 nu],.int .i64 0]) (⟨(.node (.node .leaf (some (.cells (.fn fun j=>some (cell j)) zd 35 0 0 1 0 false .leaf)) .leaf) (some (.cells (.node (.node (.node .leaf (some (.slg 1 0 0 m' 0)) .leaf) (some (.str t)) .leaf) (some (.int .i64 n)) (.node (.node .leaf (some (.int .u64 nu)) .leaf) (some (.nils 0 0)) .leaf)) 5 45 0 0 1 0 false .leaf)) .leaf),2,G⟩))):=by kernel_rfl
theorem lBg (R:AV→AHeap→Prop)(pc pc':Nat→AV)(s t p:List UInt8)(n k i:Int)(x y x2 y2 m z z':Nat)(G:T (T AV))(K:AM→Prop):Obl P 25 (fun v h=>R v h) 0 K [.run 5,.know 25 true,.run 8,.callh [(1,0,[]),(3,0,[0])] [0] (.str p) (RG s y2 x2 x2 G),.run 35,.opw false,.run 9,.told 4 (.fn fun j=>some (pc' j)) z',.can 0 [0,1,2,3,4] [2,4,6,23,24] []] ((ALB pc s t n k i x y m z G))=((decide (i<k)=true)∧(za fun j=>some (.int .u8 (yy s j)))∧(za fun j=>some (.int .u8 (yy s j)))∧(Goal P 2 56 (fun v h=>v=AV.str p∧h=RG s y2 x2 x2 G) (ze P 56 [.ptr 0 0 0] (RG s y x x G)))∧((0+1*1≤1∧∀ (k:Nat),k<1*1→∃ v,(T.leaf.node (some (AV.str p)) T.leaf).get (0+k)=some v∧v.one=true)∧0<1∧0+m*1≤z∧0≤0+m*1∧0=0*1∧xz (m+1) 16=true∧z<0+(m+1)*1)∧(xZ (z') ((.fn fun j=>some (pc' j))) ((.fn fun k=>bif (0+m*1).ble k&&k.blt (0+m*1+1*1) then (fun k=>(T.leaf.node (some (AV.str p)) T.leaf).get (0+k)) (k - (0+m*1)) else (T.fn fun c=>some (pc c)).get k)))∧(z'=0+m*1+1)∧(za fun j=>some (.int .u8 (yy s j)))∧(za fun j=>some (pc' j))∧K (ALB pc' s t n k (IntKind.u64.wrap (i+(1:Int))) x2 y2 (m+1) z' G)):=by kernel_rfl
theorem lBb (R:AV→AHeap→Prop)(pc:Nat→AV)(s t:List UInt8)(n k i:Int)(x y m z:Nat)(G:T (T AV))(_K:AM→Prop):Obl P 25 (fun v h=>R v h) 0 _K [.run 5,.know 25 true,.run 8,.callh [(1,0,[]),(3,0,[0])] [0] (.str []) (RZ s G),.run 34,.callh [(1,0,[])] [0] (.str []) (RB G),.run 1,.callh [] [0] (.tup [.nils 0 0,.int .i64 4]) ⟨.leaf,0,G⟩,.run 11,.callh [(1,0,[])] [0] (.int .u64 0) (RB G),.run 23,.can 0 [0] [2,3] [],.run 1,.done] ((ALB pc s t n k i x y m z G))=((decide (i<k)=true)∧(za fun j=>some (.int .u8 (yy s j)))∧(za fun j=>some (.int .u8 (yy s j)))∧(Goal P 2 56 (fun v h=>v=AV.str []∧h=RZ s G) (ze P 56 [.ptr 0 0 0] (RG s y x x G)))∧(Goal P 1 56 (fun v h=>v=AV.str []∧h=RB G) (ze P 56 [.ptr 0 0 0] (RB G)))∧(Goal P 0 19 (fun v h=>v=AV.tup [AV.nils 0 0,AV.int .i64 (4:Int)]∧h={ objs:=T.leaf,next:=0,glob:=G }) (zb P 19 [.str []] G))∧(Goal P 1 55 (fun v h=>v=AV.int .u64 (0:Int)∧h=RB G) (ze P 55 [.ptr 0 0 0] (RB G)))∧(R (.tup [.agg [.int .i64 0,.str [],.nils 0 0,.nils 0 0,.int .u64 0],.int .i64 4]) ((HR0 G)))):=by kernel_rfl
theorem eB1 (R:AV→AHeap→Prop)(pc:Nat→AV)(s t:List UInt8)(n k i:Int)(x y m z:Nat)(G:T (T AV))(_K:AM→Prop):Obl P 25 (fun v h=>R v h) 0 _K [.run 5,.know 25 false,.run 6,.callh [(1,0,[]),(3,0,[0])] [0] (.str []) (RZ s G),.run 1,.callh [] [0] (.tup [.nils 0 0,.int .i64 4]) ⟨.leaf,0,G⟩,.run 11,.callh [(1,0,[])] [0] (.int .u64 0) (RB G),.run 23,.can 0 [0] [2,3] [],.run 1,.done] ((ALB pc s t n k i x y m z G))=((decide (i<k)=false)∧(za fun j=>some (.int .u8 (yy s j)))∧(za fun j=>some (.int .u8 (yy s j)))∧(Goal P 2 56 (fun v h=>v=AV.str []∧h=RZ s G) (ze P 56 [.ptr 0 0 0] (RG s y x x G)))∧(Goal P 0 19 (fun v h=>v=AV.tup [AV.nils 0 0,AV.int .i64 (4:Int)]∧h={ objs:=T.leaf,next:=0,glob:=G }) (zb P 19 [.str []] G))∧(Goal P 1 55 (fun v h=>v=AV.int .u64 (0:Int)∧h=RB G) (ze P 55 [.ptr 0 0 0] (RB G)))∧(R (.tup [.agg [.int .i64 0,.str [],.nils 0 0,.nils 0 0,.int .u64 0],.int .i64 4]) ((HR0 G)))):=by kernel_rfl
theorem eB2 (R:AV→AHeap→Prop)(pc:Nat→AV)(s t u:List UInt8)(n k i nu:Int)(x y x2 y2 x3 y3 m z:Nat)(G:T (T AV))(_K:AM→Prop):Obl P 25 (fun v h=>R v h) 0 _K [.run 5,.know 25 false,.run 6,.callh [(1,0,[]),(3,0,[0])] [0] (.str u) (RG s y2 x2 x2 G),.run 1,.callh [] [0] (.tup [.nils 0 0,.int .i64 4]) ⟨.leaf,0,G⟩,.run 11,.callh [(1,0,[]),(3,0,[0])] [0] (.int .u64 nu) (RG s y3 x3 x3 G),.run 23,.can 0 [0] [2,3] [],.run 1,.done] ((ALB pc s t n k i x y m z G))=((decide (i<k)=false)∧(za fun j=>some (.int .u8 (yy s j)))∧(za fun j=>some (.int .u8 (yy s j)))∧(Goal P 2 56 (fun v h=>v=AV.str u∧h=RG s y2 x2 x2 G) (ze P 56 [.ptr 0 0 0] (RG s y x x G)))∧(Goal P 0 19 (fun v h=>v=AV.tup [AV.nils 0 0,AV.int .i64 (4:Int)]∧h={ objs:=T.leaf,next:=0,glob:=G }) (zb P 19 [.str u] G))∧(za fun j=>some (.int .u8 (yy s j)))∧(za fun j=>some (.int .u8 (yy s j)))∧(Goal P 2 55 (fun v h=>v=AV.int .u64 nu∧h=RG s y3 x3 x3 G) (ze P 55 [.ptr 0 0 0] (RG s y2 x2 x2 G)))∧(R (.tup [.agg [.int .i64 0,.str [],.nils 0 0,.nils 0 0,.int .u64 0],.int .i64 4]) ((HR0 G)))):=by kernel_rfl
theorem eB3 (R:AV→AHeap→Prop)(pc:Nat→AV)(s t u:List UInt8)(n k i:Int)(x y x2 y2 m z:Nat)(G:T (T AV))(_K:AM→Prop):Obl P 25 (fun v h=>R v h) 0 _K [.run 5,.know 25 false,.run 6,.callh [(1,0,[]),(3,0,[0])] [0] (.str u) (RG s y2 x2 x2 G),.run 1,.callh [] [0] (.tup [.nils 0 0,.int .i64 4]) ⟨.leaf,0,G⟩,.run 11,.callh [(1,0,[]),(3,0,[0])] [0] (.int .u64 0) (RZ s G),.run 23,.can 0 [0] [2,3] [],.run 1,.done] ((ALB pc s t n k i x y m z G))=((decide (i<k)=false)∧(za fun j=>some (.int .u8 (yy s j)))∧(za fun j=>some (.int .u8 (yy s j)))∧(Goal P 2 56 (fun v h=>v=AV.str u∧h=RG s y2 x2 x2 G) (ze P 56 [.ptr 0 0 0] (RG s y x x G)))∧(Goal P 0 19 (fun v h=>v=AV.tup [AV.nils 0 0,AV.int .i64 (4:Int)]∧h={ objs:=T.leaf,next:=0,glob:=G }) (zb P 19 [.str u] G))∧(za fun j=>some (.int .u8 (yy s j)))∧(za fun j=>some (.int .u8 (yy s j)))∧(Goal P 2 55 (fun v h=>v=AV.int .u64 (0:Int)∧h=RZ s G) (ze P 55 [.ptr 0 0 0] (RG s y2 x2 x2 G)))∧(R (.tup [.agg [.int .i64 0,.str [],.nils 0 0,.nils 0 0,.int .u64 0],.int .i64 4]) ((HR0 G)))):=by kernel_rfl
theorem eBnb (R:AV→AHeap→Prop)(pc:Nat→AV)(s t u:List UInt8)(n k i:Int)(x y x2 y2 m z:Nat)(G:T (T AV))(_K:AM→Prop):Obl P 25 (fun v h=>R v h) 0 _K [.run 5,.know 25 false,.run 6,.callh [(1,0,[]),(3,0,[0])] [0] (.str u) (RG s y2 x2 x2 G),.run 1,.callh [] [0] (.tup [.nils 0 0,.int .i64 0]) ⟨.leaf,0,G⟩,.run 11,.callh [(1,0,[]),(3,0,[0])] [0] (.int .u64 0) (RZ s G),.run 62,.can 0 [0] [2,3] [],.run 1,.done] ((ALB pc s t n k i x y m z G))=((decide (i<k)=false)∧(za fun j=>some (.int .u8 (yy s j)))∧(za fun j=>some (.int .u8 (yy s j)))∧(Goal P 2 56 (fun v h=>v=AV.str u∧h=RG s y2 x2 x2 G) (ze P 56 [.ptr 0 0 0] (RG s y x x G)))∧(Goal P 0 19 (fun v h=>v=AV.tup [AV.nils 0 0,AV.int .i64 (0:Int)]∧h={ objs:=T.leaf,next:=0,glob:=G }) (zb P 19 [.str u] G))∧(za fun j=>some (.int .u8 (yy s j)))∧(za fun j=>some (.int .u8 (yy s j)))∧(Goal P 2 55 (fun v h=>v=AV.int .u64 (0:Int)∧h=RZ s G) (ze P 55 [.ptr 0 0 0] (RG s y2 x2 x2 G)))∧(R (.tup [.agg [.int .i64 0,.str [],.nils 0 0,.nils 0 0,.int .u64 0],.int .i64 4]) ((HR0 G)))):=by kernel_rfl
theorem eBnx (R:AV→AHeap→Prop)(pc:Nat→AV)(s t u:List UInt8)(n k i nu:Int)(x y x2 y2 x3 y3 m z:Nat)(G:T (T AV))(_K:AM→Prop):Obl P 25 (fun v h=>R v h) 0 _K [.run 5,.know 25 false,.run 6,.callh [(1,0,[]),(3,0,[0])] [0] (.str u) (RG s y2 x2 x2 G),.run 1,.callh [] [0] (.tup [.nils 0 0,.int .i64 0]) ⟨.leaf,0,G⟩,.run 11,.callh [(1,0,[]),(3,0,[0])] [0] (.int .u64 nu) (RG s y3 x3 x3 G),.run 55,.know 55 true,.run 7,.can 0 [0] [2,3] [],.run 1,.done] ((ALB pc s t n k i x y m z G))=((decide (i<k)=false)∧(za fun j=>some (.int .u8 (yy s j)))∧(za fun j=>some (.int .u8 (yy s j)))∧(Goal P 2 56 (fun v h=>v=AV.str u∧h=RG s y2 x2 x2 G) (ze P 56 [.ptr 0 0 0] (RG s y x x G)))∧(Goal P 0 19 (fun v h=>v=AV.tup [AV.nils 0 0,AV.int .i64 (0:Int)]∧h={ objs:=T.leaf,next:=0,glob:=G }) (zb P 19 [.str u] G))∧(za fun j=>some (.int .u8 (yy s j)))∧(za fun j=>some (.int .u8 (yy s j)))∧(Goal P 2 55 (fun v h=>v=AV.int .u64 nu∧h=RG s y3 x3 x3 G) (ze P 55 [.ptr 0 0 0] (RG s y2 x2 x2 G)))∧((!(↑x3:Int)==(0:Int))=true)∧(R (.tup [.agg [.int .i64 0,.str [],.nils 0 0,.nils 0 0,.int .u64 0],.int .i64 4]) ((HR0 G)))):=by kernel_rfl
theorem eBnz (R:AV→AHeap→Prop)(pc:Nat→AV)(s t u:List UInt8)(n k i nu:Int)(x y x2 y2 y3 m z:Nat)(G:T (T AV))(_K:AM→Prop):Obl P 25 (fun v h=>R v h) 0 _K [.run 5,.know 25 false,.run 6,.callh [(1,0,[]),(3,0,[0])] [0] (.str u) (RG s y2 x2 x2 G),.run 1,.callh [] [0] (.tup [.nils 0 0,.int .i64 0]) ⟨.leaf,0,G⟩,.run 11,.callh [(1,0,[]),(3,0,[0])] [0] (.int .u64 nu) (RG s y3 0 0 G),.run 63,.can 0 [0,4] [2,3] [],.run 1,.done] ((ALB pc s t n k i x y m z G))=((decide (i<k)=false)∧(za fun j=>some (.int .u8 (yy s j)))∧(za fun j=>some (.int .u8 (yy s j)))∧(Goal P 2 56 (fun v h=>v=AV.str u∧h=RG s y2 x2 x2 G) (ze P 56 [.ptr 0 0 0] (RG s y x x G)))∧(Goal P 0 19 (fun v h=>v=AV.tup [AV.nils 0 0,AV.int .i64 (0:Int)]∧h={ objs:=T.leaf,next:=0,glob:=G }) (zb P 19 [.str u] G))∧(za fun j=>some (.int .u8 (yy s j)))∧(za fun j=>some (.int .u8 (yy s j)))∧(Goal P 2 55 (fun v h=>v=AV.int .u64 nu∧h=RG s y3 0 0 G) (ze P 55 [.ptr 0 0 0] (RG s y2 x2 x2 G)))∧(za fun c=>some (pc c))∧(R (.tup [.agg [.int .i64 n,.str t,.slg 1 0 0 m 0,.nils 0 0,.int .u64 nu],.int .i64 0]) (⟨(.node (.node .leaf (some (.cells (.fn fun c=>some (pc c)) z 9 0 0 1 0 false .leaf)) .leaf) (some (.cells (.node (.node (.node .leaf (some (.nils 0 0)) .leaf) (some (.str t)) .leaf) (some (.int .i64 n)) (.node (.node .leaf (some (.int .u64 nu)) .leaf) (some (.slg 1 0 0 m 0)) .leaf)) 5 45 0 0 1 0 false .leaf)) .leaf),2,G⟩))):=by kernel_rfl
theorem eBrb (R:AV→AHeap→Prop)(cell pc:Nat→AV)(s t u:List UInt8)(n k i:Int)(x y x2 y2 m m' z zd:Nat)(G:T (T AV))(_K:AM→Prop):Obl P 25 (fun v h=>R v h) 0 _K [.run 5,.know 25 false,.run 6,.callh [(1,0,[]),(3,0,[0])] [0] (.str u) (RG s y2 x2 x2 G),.run 1,.callh [] [0] (.tup [.slg 0 0 0 m' 0,.int .i64 0]) ⟨(.node .leaf (some (.cells (.fn fun j=>some (cell j)) zd 35 0 0 1 0 false .leaf)) .leaf),1,G⟩,.run 11,.callh [(1,0,[]),(3,0,[0])] [0] (.int .u64 0) (RZ s G),.run 62,.can 0 [0] [2,3] [],.run 1,.done] ((ALB pc s t n k i x y m z G))=((decide (i<k)=false)∧(za fun j=>some (.int .u8 (yy s j)))∧(za fun j=>some (.int .u8 (yy s j)))∧(Goal P 2 56 (fun v h=>v=AV.str u∧h=RG s y2 x2 x2 G) (ze P 56 [.ptr 0 0 0] (RG s y x x G)))∧(za fun j=>some (cell j))∧(Goal P 0 19 (fun v h=>v=AV.tup [AV.slg 0 0 0 m' 0,AV.int .i64 (0:Int)]∧h={ objs:=T.leaf.node (some (AObj.cells (T.fn fun j=>some (cell j)) zd 35 0 0 1 0 false T.leaf)) T.leaf,next:=1,glob:=G }) (zb P 19 [.str u] G))∧(za fun j=>some (.int .u8 (yy s j)))∧(za fun j=>some (.int .u8 (yy s j)))∧(Goal P 2 55 (fun v h=>v=AV.int .u64 (0:Int)∧h=RZ s G) (ze P 55 [.ptr 0 0 0] (RG s y2 x2 x2 G)))∧(R (.tup [.agg [.int .i64 0,.str [],.nils 0 0,.nils 0 0,.int .u64 0],.int .i64 4]) ((HR0 G)))):=by kernel_rfl
theorem eBrx (R:AV→AHeap→Prop)(cell pc:Nat→AV)(s t u:List UInt8)(n k i nu:Int)(x y x2 y2 x3 y3 m m' z zd:Nat)(G:T (T AV))(_K:AM→Prop):Obl P 25 (fun v h=>R v h) 0 _K [.run 5,.know 25 false,.run 6,.callh [(1,0,[]),(3,0,[0])] [0] (.str u) (RG s y2 x2 x2 G),.run 1,.callh [] [0] (.tup [.slg 0 0 0 m' 0,.int .i64 0]) ⟨(.node .leaf (some (.cells (.fn fun j=>some (cell j)) zd 35 0 0 1 0 false .leaf)) .leaf),1,G⟩,.run 11,.callh [(1,0,[]),(3,0,[0])] [0] (.int .u64 nu) (RG s y3 x3 x3 G),.run 55,.know 55 true,.run 7,.can 0 [0] [2,3] [],.run 1,.done] ((ALB pc s t n k i x y m z G))=((decide (i<k)=false)∧(za fun j=>some (.int .u8 (yy s j)))∧(za fun j=>some (.int .u8 (yy s j)))∧(Goal P 2 56 (fun v h=>v=AV.str u∧h=RG s y2 x2 x2 G) (ze P 56 [.ptr 0 0 0] (RG s y x x G)))∧(za fun j=>some (cell j))∧(Goal P 0 19 (fun v h=>v=AV.tup [AV.slg 0 0 0 m' 0,AV.int .i64 (0:Int)]∧h={ objs:=T.leaf.node (some (AObj.cells (T.fn fun j=>some (cell j)) zd 35 0 0 1 0 false T.leaf)) T.leaf,next:=1,glob:=G }) (zb P 19 [.str u] G))∧(za fun j=>some (.int .u8 (yy s j)))∧(za fun j=>some (.int .u8 (yy s j)))∧(Goal P 2 55 (fun v h=>v=AV.int .u64 nu∧h=RG s y3 x3 x3 G) (ze P 55 [.ptr 0 0 0] (RG s y2 x2 x2 G)))∧((!(↑x3:Int)==(0:Int))=true)∧(R (.tup [.agg [.int .i64 0,.str [],.nils 0 0,.nils 0 0,.int .u64 0],.int .i64 4]) ((HR0 G)))):=by kernel_rfl
theorem eBrz (R:AV→AHeap→Prop)(cell pc:Nat→AV)(s t u:List UInt8)(n k i nu:Int)(x y x2 y2 y3 m m' z zd:Nat)(G:T (T AV))(_K:AM→Prop):Obl P 25 (fun v h=>R v h) 0 _K [.run 5,.know 25 false,.run 6,.callh [(1,0,[]),(3,0,[0])] [0] (.str u) (RG s y2 x2 x2 G),.run 1,.callh [] [0] (.tup [.slg 0 0 0 m' 0,.int .i64 0]) ⟨(.node .leaf (some (.cells (.fn fun j=>some (cell j)) zd 35 0 0 1 0 false .leaf)) .leaf),1,G⟩,.run 11,.callh [(1,0,[]),(3,0,[0])] [0] (.int .u64 nu) (RG s y3 0 0 G),.run 63,.can 0 [0,5,4] [2,3] [],.run 1,.done] ((ALB pc s t n k i x y m z G))=((decide (i<k)=false)∧(za fun j=>some (.int .u8 (yy s j)))∧(za fun j=>some (.int .u8 (yy s j)))∧(Goal P 2 56 (fun v h=>v=AV.str u∧h=RG s y2 x2 x2 G) (ze P 56 [.ptr 0 0 0] (RG s y x x G)))∧(za fun j=>some (cell j))∧(Goal P 0 19 (fun v h=>v=AV.tup [AV.slg 0 0 0 m' 0,AV.int .i64 (0:Int)]∧h={ objs:=T.leaf.node (some (AObj.cells (T.fn fun j=>some (cell j)) zd 35 0 0 1 0 false T.leaf)) T.leaf,next:=1,glob:=G }) (zb P 19 [.str u] G))∧(za fun j=>some (.int .u8 (yy s j)))∧(za fun j=>some (.int .u8 (yy s j)))∧(Goal P 2 55 (fun v h=>v=AV.int .u64 nu∧h=RG s y3 0 0 G) (ze P 55 [.ptr 0 0 0] (RG s y2 x2 x2 G)))∧(za fun j=>some (cell j))∧(za fun c=>some (pc c))∧(R (.tup [.agg [.int .i64 n,.str t,.slg 2 0 0 m 0,.slg 1 0 0 m' 0,.int .u64 nu],.int .i64 0]) (⟨(.node (.node .leaf (some (.cells (.fn fun j=>some (cell j)) zd 35 0 0 1 0 false .leaf)) .leaf) (some (.cells (.node (.node (.node .leaf (some (.slg 1 0 0 m' 0)) .leaf) (some (.str t)) .leaf) (some (.int .i64 n)) (.node (.node .leaf (some (.int .u64 nu)) .leaf) (some (.slg 2 0 0 m 0)) .leaf)) 5 45 0 0 1 0 false .leaf)) (.node .leaf (some (.cells (.fn fun c=>some (pc c)) z 9 0 0 1 0 false .leaf)) .leaf)),3,G⟩))):=by kernel_rfl
theorem znT (s:List UInt8)(Q:AV→AHeap→Prop)(G:T (T AV))(K:AM→Prop):Obl P 25 Q 0 K [.cap 1 0] (AN (.slg 2 0 0 s.length 0) s G)=(0<s.length∧∀ cap,s.length≤cap→K (AN (.slc 2 0 0 s.length cap) s G)):=by kernel_rfl
def es (g:Nat→List UInt8) (j:Nat):AV:=.str (g j)
theorem xe (g:Nat→List UInt8):za fun j=>some (es g j):=by
 intro k v h
 cases h
 rfl
theorem zdr (p:List UInt8):xZ 1 (.fn fun j=>some (es (fun _=>p) j)) (.node .leaf (some (.str p)) .leaf):=by
 intro k v hk h
 obtain rfl:k=0:=by omega
 exact h
theorem zdT (g:Nat→List UInt8)(m:Nat)(p:List UInt8) :
 xZ (0+m*1+1) (.fn fun j=>some (es (upd g m p) j)) (.fn fun k=>bif (0+m*1).ble k&&k.blt (0+m*1+1*1) then (fun k=>(T.leaf.node (some (AV.str p)) T.leaf).get (0+k)) (k - (0+m*1)) else (T.fn fun j=>some (es g j)).get k):=by
 intro k v hk h
 have h:some (es (upd g m p) k)=some v:=h
 rw [← h]
 show (bif (0+m*1).ble k&&k.blt (0+m*1+1*1) then (T.leaf.node (some (AV.str p)) T.leaf).get (0+(k - (0+m*1))) else some (es g k))=_
 by_cases hin:k=m
 · have e:((0+m*1).ble k&&k.blt (0+m*1+1*1))=true:=by
    rw [Bool.and_eq_true,Nat.ble_eq,Nat.blt_eq]; omega
   have e2:0+(k - (0+m*1))=0:=by omega
   rw [e,cond_true,e2]
   show some (AV.str p)=_
   unfold es upd
   rw [if_pos hin]
 · have e:((0+m*1).ble k&&k.blt (0+m*1+1*1))=false:=by
    rw [← Bool.not_eq_true,Bool.and_eq_true,Nat.ble_eq,Nat.blt_eq]; omega
   rw [e,cond_false]
   unfold es upd
   rw [if_neg hin]
def yS (p:List UInt8):List UInt8:=row (p.length:Nat)++p
noncomputable def zew (k:Int) (t:List UInt8) (ps:List (List UInt8)) (ms:List Dg) (nu:Int):List UInt8 :=
 row k++(row (t.length:Nat)++(t++(row (ps.length:Nat)++(ps.flatMap yS++(row ((zp ms).length:Nat)++(zp ms++row nu))))))
abbrev zgf (m:AM):Prop:=Goal P 0 25 (fun v h=>v=.tup [.agg [.int .i64 0,.str [],.nils 0 0,.nils 0 0,.int .u64 0],.int .i64 4]∧h=HR0 GW) m
theorem yP:Bad (zb P 19 [.str []] GW):=zff (by simp) fun l _ h=>by
 have:=vQ l
 rw [h] at this
 simp at this
section
variable {s:List UInt8}
def NoR (s:List UInt8):Prop:=∀ k t ps ms nu,0≤k→k≤14→So ms ms→0≤nu→nu≤18446744073709551615→zew k t ps ms nu≠s
theorem an_B (hs:s.length≤200000)(hno:NoR s){code:Int}(hc0:0≤code)(hc1:code≤14){t:List UInt8}{k:Int}(x:Nat):∀ (y m z:Nat) (g:Nat→List UInt8),St s x y→0<m→z=m*1→m+x≤s.length→(m:Int)≤k →
 s=row code++(row (t.length:Nat)++(t++(row k++((sl g 0 m).flatMap yS++mq.ahead s x))))→zgf (ALB (es g) s t code k (m:Int) x y m z GW):=by
 induction x using Nat.strongRecOn with
 | _ x ih =>
  intro y m z g st hm hz hmx hmk hpre
  subst hz
  have hx:=st.1
  by_cases hi:(m:Int)<k
  · rcases yV hs st (Nat.le_refl _) with ⟨p,x2,y2,g1,s2,e1⟩ | g1
    · have hl:=ym st
      have hl2:=ym s2
      have hr:=zL (p.length:Nat)
      rw [e1] at hl
      simp only [List.length_append] at hl
      rw [hl2] at hl
      have hih:=ih x2 (by omega) y2 (m+1) (0+m*1+1) (upd g m p) s2 (by omega) (by omega) (by omega) (by omega) (by
       conv=>lhs; rw [hpre]
       rw [e1,x6,Nat.zero_add,List.flatMap_append,List.flatMap_cons,List.flatMap_nil,List.append_nil]
       have u1:upd g m p m=p:=by unfold upd; rw [if_pos rfl]
       have u2:sl (upd g m p) 0 m=sl g 0 m:=xR m 0 fun t h1 h2=>by unfold upd; rw [if_neg (by omega)]
       rw [u1,u2]
       unfold yS
       simp only [List.append_assoc])
      exact (og (lBg _ (es g) (es (upd g m p)) _ _ (p) _ _ _ _ _ _ _ _ _ _ GW _).symm ⟨decide_eq_true hi,zc s,zc s,g1,⟨⟨by omega,fun k hk=>by
       obtain rfl:k=0:=by omega
       exact ⟨_,rfl,rfl⟩⟩,by omega,by omega,by omega,by omega,by
        unfold xz
        rw [Bool.and_eq_true,Nat.ble_eq,Nat.blt_eq]
        constructor <;> omega,by omega⟩,zdT g m p,rfl,zc s,xe _,by rw [zoo m (by omega)]; exact hih⟩)
    · exact (og (lBb _ (es g) _ _ _ _ _ _ _ _ _ GW _).symm ⟨decide_eq_true hi,zc s,zc s,g1,qW,yP,zcr,rfl,rfl⟩)
  · have hk:k=(m:Int):=by omega
    rcases yV hs st (Nat.le_refl _) with ⟨u,x2,y2,g1,s2,e1⟩ | g1
    · have hu:u.length≤200000:=by
       have:=ym st
       rw [e1] at this
       simp only [List.length_append] at this
       have:=st.1
       omega
      by_cases hex:∃ l,So l l∧zp l=u
      · obtain ⟨ms,hm,he⟩:=hex
        rcases vq hs s2 (Nat.le_refl _) with ⟨nu,x3,y3,g2,s3,v0,v1,e2⟩ | g2
        · by_cases hx:x3=0
          · subst hx
            exfalso
            apply hno code t (sl g 0 m) ms nu hc0 hc1 hm v0 v1
            rw [zew,he,hpre,e1,e2,zao,List.append_nil]
            rw [xO,hk]
          · rcases zbw hu hm he with ⟨_,hg⟩ | ⟨_,f1,_,hg⟩
            · exact (og (eBnx _ (es g) _ _ _ _ _ _ _ _ _ _ _ _ _ _ _ GW _).symm ⟨decide_eq_false hi,zc s,zc s,g1,hg,zc s,zc s,g2,nzT (by omega),rfl,rfl⟩)
            · exact (og (eBrx _ (el f1) (es g) _ _ _ _ _ _ _ _ _ _ _ _ _ _ _ _ _ GW _).symm ⟨decide_eq_false hi,zc s,zc s,g1,zh _,hg,zc s,zc s,g2,nzT (by omega),rfl,rfl⟩)
        · rcases zbw hu hm he with ⟨_,hg⟩ | ⟨_,f1,_,hg⟩
          · exact (og (eBnb _ (es g) _ _ _ _ _ _ _ _ _ _ _ _ GW _).symm ⟨decide_eq_false hi,zc s,zc s,g1,hg,zc s,zc s,g2,rfl,rfl⟩)
          · exact (og (eBrb _ (el f1) (es g) _ _ _ _ _ _ _ _ _ _ _ _ _ _ GW _).symm ⟨decide_eq_false hi,zc s,zc s,g1,zh _,hg,zc s,zc s,g2,rfl,rfl⟩)
      · have hg:=zff hu fun l hl he=>hex ⟨l,hl,he⟩
        rcases vq hs s2 (Nat.le_refl _) with ⟨nu,x3,y3,g2,s3,v0,v1,e2⟩ | g2
        · exact (og (eB2 _ (es g) _ _ _ _ _ _ _ _ _ _ _ _ _ _ _ GW _).symm ⟨decide_eq_false hi,zc s,zc s,g1,hg,zc s,zc s,g2,rfl,rfl⟩)
        · exact (og (eB3 _ (es g) _ _ _ _ _ _ _ _ _ _ _ _ GW _).symm ⟨decide_eq_false hi,zc s,zc s,g1,hg,zc s,zc s,g2,rfl,rfl⟩)
    · exact (og (eB1 _ (es g) _ _ _ _ _ _ _ _ _ GW _).symm ⟨decide_eq_false hi,zc s,zc s,g1,yP,zcr,rfl,rfl⟩)
theorem an_A (hs:s.length≤200000)(hno:NoR s){code:Int}(hc0:0≤code)(hc1:code≤14){t:List UInt8}{k:Int}{x y:Nat}(st:St s x y)(hk0:0≤k)
 (hpre:s=row code++(row (t.length:Nat)++(t++(row k++mq.ahead s x)))):zgf (ALA s t code k 0 x y GW):=by
 have hx:=st.1
 by_cases hi:(0:Int)<k
 · rcases yV hs st (Nat.le_refl _) with ⟨p,x2,y2,g1,s2,e1⟩ | g1
   · have hl:=ym st
     have hl2:=ym s2
     have hr:=zL (p.length:Nat)
     rw [e1] at hl
     simp only [List.length_append] at hl
     rw [hl2] at hl
     have hB:=an_B hs hno hc0 hc1 (t:=t) (k:=k) x2 y2 1 1 (fun _=>p) s2 (by omega) (by omega) (by omega) (by omega) (by
      conv=>lhs; rw [hpre]
      rw [e1]
      show _=row code++(row (t.length:Nat)++(t++(row k++((yS p++[])++mq.ahead s x2))))
      unfold yS
      simp only [List.append_assoc,List.append_nil])
     exact (og (lAg _ (es (fun _=>p)) _ _ (p) _ _ _ _ _ _ _ (1) GW _).symm ⟨decide_eq_true hi,zc s,zc s,g1,zdr p,rfl,zc s,xe _,hB⟩)
   · exact (og (lAb _ _ _ _ _ _ _ _ GW _).symm ⟨decide_eq_true hi,zc s,zc s,g1,qW,yP,zcr,rfl,rfl⟩)
 · have hk:k=0:=by omega
   rcases yV hs st (Nat.le_refl _) with ⟨u,x2,y2,g1,s2,e1⟩ | g1
   · have hu:u.length≤200000:=by
      have:=ym st
      rw [e1] at this
      simp only [List.length_append] at this
      have:=st.1
      omega
     by_cases hex:∃ l,So l l∧zp l=u
     · obtain ⟨ms,hm,he⟩:=hex
       rcases vq hs s2 (Nat.le_refl _) with ⟨nu,x3,y3,g2,s3,v0,v1,e2⟩ | g2
       · by_cases hx:x3=0
         · subst hx
           exfalso
           apply hno code t ([]) ms nu hc0 hc1 hm v0 v1
           rw [zew,he,hpre,e1,e2,zao,List.append_nil]
           (rw [hk]; rfl)
         · rcases zbw hu hm he with ⟨_,hg⟩ | ⟨_,f1,_,hg⟩
           · exact (og (eAnx _ _ _ _ _ _ _ _ _ _ _ _ _ _ GW _).symm ⟨decide_eq_false hi,zc s,zc s,g1,hg,zc s,zc s,g2,nzT (by omega),rfl,rfl⟩)
           · exact (og (eArx _ (el f1) _ _ _ _ _ _ _ _ _ _ _ _ _ _ _ GW _).symm ⟨decide_eq_false hi,zc s,zc s,g1,zh _,hg,zc s,zc s,g2,nzT (by omega),rfl,rfl⟩)
       · rcases zbw hu hm he with ⟨_,hg⟩ | ⟨_,f1,_,hg⟩
         · exact (og (eAnb _ _ _ _ _ _ _ _ _ _ _ GW _).symm ⟨decide_eq_false hi,zc s,zc s,g1,hg,zc s,zc s,g2,rfl,rfl⟩)
         · exact (og (eArb _ (el f1) _ _ _ _ _ _ _ _ _ _ _ _ GW _).symm ⟨decide_eq_false hi,zc s,zc s,g1,zh _,hg,zc s,zc s,g2,rfl,rfl⟩)
     · have hg:=zff hu fun l hl he=>hex ⟨l,hl,he⟩
       rcases vq hs s2 (Nat.le_refl _) with ⟨nu,x3,y3,g2,s3,v0,v1,e2⟩ | g2
       · exact (og (eA2 _ _ _ _ _ _ _ _ _ _ _ _ _ _ GW _).symm ⟨decide_eq_false hi,zc s,zc s,g1,hg,zc s,zc s,g2,rfl,rfl⟩)
       · exact (og (eA3 _ _ _ _ _ _ _ _ _ _ _ GW _).symm ⟨decide_eq_false hi,zc s,zc s,g1,hg,zc s,zc s,g2,rfl,rfl⟩)
   · exact (og (eA1 _ _ _ _ _ _ _ _ GW _).symm ⟨decide_eq_false hi,zc s,zc s,g1,yP,zcr,rfl,rfl⟩)
theorem ziG (h0:0<s.length){Q:AV→AHeap→Prop}(h:∀ cap,s.length≤cap→Goal P 0 25 Q (AN (.slc 2 0 0 s.length cap) s GW)):Goal P 0 25 Q (zb P 25 [.str s] GW) :=
 (og (a0 _ _ GW _).symm ⟨zc s,zcc 0 s,zc s,(og (znT s _ GW _).symm ⟨h0,h⟩)⟩)
theorem znW (hs:s.length≤200000)(hno:NoR s):zgf (zb P 25 [.str s] GW):=by
 by_cases h0:0<s.length
 · refine ziG h0 fun cap hcap=>?_
   rcases vq hs (st0 s) hcap with ⟨n,x1,y1,g0,s1,n0,n1,e0⟩ | g0
   · by_cases hn:n > 14
     · exact (og (s2 _ (s) _ (s.length) (cap) _ _ GW _).symm ⟨zc s,zc s,g0,decide_eq_true hn,rfl,rfl⟩)
     · have w:IntKind.i64.wrap n=n:=IntWalk.i64_in _ (by omega)
       rcases yV hs s1 (Nat.le_refl _) with ⟨t,x2,y2,g1,s2,e1⟩ | g1
       · rcases vq hs s2 (Nat.le_refl _) with ⟨k,x3,y3,g2,s3,k0,k1,e2⟩ | g2
         · exact (og (s5 _ (s) _ _ _ (s.length) (cap) _ _ _ _ _ _ GW _).symm ⟨zc s,zc s,g0,decide_eq_false hn,zc s,zc s,g1,zc s,zc s,g2,zc s,by rw [w]; exact an_A hs hno n0 (by omega) s3 k0 (by rw [← e2,← e1,← e0,kK])⟩)
         · exact (og (s4 _ (s) _ _ (s.length) (cap) _ _ _ _ GW _).symm ⟨zc s,zc s,g0,decide_eq_false hn,zc s,zc s,g1,zc s,zc s,g2,qW,yP,zcr,rfl,rfl⟩)
       · exact (og (s3 _ (s) _ (s.length) (cap) _ _ GW _).symm ⟨zc s,zc s,g0,decide_eq_false hn,zc s,zc s,g1,zcr,qW,yP,zcr,rfl,rfl⟩)
   · exact (og (s1 _ (s) (s.length) (cap) GW _).symm ⟨zc s,zc s,g0,qW,zcr,qW,yP,zcr,rfl,rfl⟩)
 · obtain rfl:s=[]:=List.eq_nil_of_length_eq_zero (by omega)
   exact (og (aE _ GW _).symm ⟨rfl,rfl⟩)
end
end Go.Proofs.YtdbfpjgnlfejmaaDoor.dg
end
section
set_option maxRecDepth 100000
set_option linter.unusedVariables false
namespace Go.Proofs.YtdbfpjgnlfejmaaDoor.dg
open Go Ev mq
noncomputable def HRn (k:Int) (t:List UInt8) (nu:Int) (G:T (T AV)):AHeap:=⟨(.node .leaf (some (.cells (.node (.node (.node .leaf (some (.nils 0 0)) .leaf) (some (.str t)) .leaf) (some (.int .i64 k)) (.node (.node .leaf (some (.int .u64 nu)) .leaf) (some (.nils 0 0)) .leaf)) 5 45 0 0 1 0 false .leaf)) .leaf),1,G⟩
noncomputable def HRd (k:Int) (t:List UInt8) (nu:Int) (f:Nat→Dg) (m:Nat) (G:T (T AV)):AHeap:=⟨(.node (.node .leaf (some (.cells (.fn fun c=>some (el f c)) (m*3) 35 0 0 1 0 false .leaf)) .leaf) (some (.cells (.node (.node (.node .leaf (some (.slg 1 0 0 m 0)) .leaf) (some (.str t)) .leaf) (some (.int .i64 k)) (.node (.node .leaf (some (.int .u64 nu)) .leaf) (some (.nils 0 0)) .leaf)) 5 45 0 0 1 0 false .leaf)) .leaf),2,G⟩
noncomputable def HRp (k:Int) (t:List UInt8) (nu:Int) (g:Nat→List UInt8) (q:Nat) (G:T (T AV)):AHeap:=⟨(.node (.node .leaf (some (.cells (.fn fun c=>some (es g c)) (q*1) 9 0 0 1 0 false .leaf)) .leaf) (some (.cells (.node (.node (.node .leaf (some (.nils 0 0)) .leaf) (some (.str t)) .leaf) (some (.int .i64 k)) (.node (.node .leaf (some (.int .u64 nu)) .leaf) (some (.slg 1 0 0 q 0)) .leaf)) 5 45 0 0 1 0 false .leaf)) .leaf),2,G⟩
noncomputable def HRb (k:Int) (t:List UInt8) (nu:Int) (g:Nat→List UInt8) (q:Nat) (f:Nat→Dg) (m:Nat) (G:T (T AV)):AHeap:=⟨(.node (.node .leaf (some (.cells (.fn fun c=>some (el f c)) (m*3) 35 0 0 1 0 false .leaf)) .leaf) (some (.cells (.node (.node (.node .leaf (some (.slg 1 0 0 m 0)) .leaf) (some (.str t)) .leaf) (some (.int .i64 k)) (.node (.node .leaf (some (.int .u64 nu)) .leaf) (some (.slg 2 0 0 q 0)) .leaf)) 5 45 0 0 1 0 false .leaf)) (.node .leaf (some (.cells (.fn fun c=>some (es g c)) (q*1) 9 0 0 1 0 false .leaf)) .leaf)),3,G⟩
def OkA (k:Int) (t:List UInt8) (ms:List Dg) (nu:Int) (M:AM):Prop :=
 (ms=[]∧Goal P 0 25 (fun v h=>v=.tup [.agg [.int .i64 k,.str t,.nils 0 0,.nils 0 0,.int .u64 nu],.int .i64 0]∧h=HRn k t nu GW) M) ∨
  (0<ms.length∧∃ f,sl f 0 ms.length=ms∧Goal P 0 25 (fun v h=>v=.tup [.agg [.int .i64 k,.str t,.nils 0 0,.slg 1 0 0 ms.length 0,.int .u64 nu],.int .i64 0]∧h=HRd k t nu f ms.length GW) M)
def OkB (k:Int) (t:List UInt8) (g:Nat→List UInt8) (q:Nat) (ms:List Dg) (nu:Int) (M:AM):Prop :=
 (ms=[]∧Goal P 0 25 (fun v h=>v=.tup [.agg [.int .i64 k,.str t,.slg 1 0 0 q 0,.nils 0 0,.int .u64 nu],.int .i64 0]∧h=HRp k t nu g q GW) M) ∨
  (0<ms.length∧∃ f,sl f 0 ms.length=ms∧Goal P 0 25 (fun v h=>v=.tup [.agg [.int .i64 k,.str t,.slg 2 0 0 q 0,.slg 1 0 0 ms.length 0,.int .u64 nu],.int .i64 0]∧h=HRb k t nu g q f ms.length GW) M)
section
variable {s:List UInt8}
theorem znr (hs:s.length≤200000){code:Int}{t:List UInt8}{ms:List Dg}(hm:So ms ms){nu:Int}(v0:0≤nu)(v1:nu≤18446744073709551615){k:Int}{x y:Nat}(st:St s x y)(hi:¬ (0:Int)<k)
 (ha:mq.ahead s x=row ((zp ms).length:Nat)++(zp ms++row nu)):OkA code t ms nu (ALA s t code k 0 x y GW):=by
 obtain ⟨x2,y2,g1,s2,e1⟩:=wr hs st (Nat.le_refl _) (t:=zp ms) (rest:=row nu) ha
 obtain ⟨x3,y3,g2,s3,e2⟩:=zeg hs s2 (Nat.le_refl _) v0 v1 (rest:=[]) (by rw [List.append_nil]; exact e1)
 have hx:x3=0:=by
  have:=ym s3
  rw [e2] at this
  exact this.symm
 subst hx
 have hu:(zp ms).length≤200000:=by
  have:=ym st
  rw [ha] at this
  simp only [List.length_append] at this
  have:=st.1
  omega
 rcases zbw hu hm rfl with ⟨h0,hg⟩ | ⟨h0,f,hf,hg⟩
 · exact .inl ⟨h0,(og (eAnz _ _ _ _ _ _ _ _ _ _ _ _ _ GW _).symm ⟨decide_eq_false hi,zc s,zc s,g1,hg,zc s,zc s,g2,rfl,rfl⟩)⟩
 · exact .inr ⟨h0,f,hf,(og (eArz _ (el f) _ _ _ _ _ _ _ _ _ _ _ _ _ _ GW _).symm ⟨decide_eq_false hi,zc s,zc s,g1,zh _,hg,zc s,zc s,g2,zh _,rfl,rfl⟩)⟩
theorem znP (hs:s.length≤200000){code:Int}{t:List UInt8}{ms:List Dg}(hm:So ms ms){nu:Int}(v0:0≤nu)(v1:nu≤18446744073709551615){x y m z:Nat}{g:Nat→List UInt8}(hz:z=m*1)(st:St s x y)(hi:¬ (m:Int)<(m:Int))
 (ha:mq.ahead s x=row ((zp ms).length:Nat)++(zp ms++row nu)):OkB code t g m ms nu (ALB (es g) s t code m m x y m z GW):=by
 subst hz
 obtain ⟨x2,y2,g1,s2,e1⟩:=wr hs st (Nat.le_refl _) (t:=zp ms) (rest:=row nu) ha
 obtain ⟨x3,y3,g2,s3,e2⟩:=zeg hs s2 (Nat.le_refl _) v0 v1 (rest:=[]) (by rw [List.append_nil]; exact e1)
 have hx:x3=0:=by
  have:=ym s3
  rw [e2] at this
  exact this.symm
 subst hx
 have hu:(zp ms).length≤200000:=by
  have:=ym st
  rw [ha] at this
  simp only [List.length_append] at this
  have:=st.1
  omega
 rcases zbw hu hm rfl with ⟨h0,hg⟩ | ⟨h0,f,hf,hg⟩
 · exact .inl ⟨h0,(og (eBnz _ (es g) _ _ _ _ _ _ _ _ _ _ _ _ _ _ GW _).symm ⟨decide_eq_false hi,zc s,zc s,g1,hg,zc s,zc s,g2,xe g,rfl,rfl⟩)⟩
 · exact .inr ⟨h0,f,hf,(og (eBrz _ (el f) (es g) _ _ _ _ _ _ _ _ _ _ _ _ _ _ _ _ GW _).symm ⟨decide_eq_false hi,zc s,zc s,g1,zh _,hg,zc s,zc s,g2,zh _,xe g,rfl,rfl⟩)⟩
theorem OkA.mono {k:Int}{t:List UInt8}{ms:List Dg}{nu:Int}{M M':AM}(h:∀ Q:AV→AHeap→Prop,Goal P 0 25 Q M→Goal P 0 25 Q M')(a:OkA k t ms nu M):OkA k t ms nu M':=by
 rcases a with ⟨a1,a2⟩ | ⟨a1,f,a2,a3⟩
 · exact .inl ⟨a1,h _ a2⟩
 · exact .inr ⟨a1,f,a2,h _ a3⟩
theorem OkB.mono {k:Int}{t:List UInt8}{g:Nat→List UInt8}{q:Nat}{ms:List Dg}{nu:Int}{M M':AM}(h:∀ Q:AV→AHeap→Prop,Goal P 0 25 Q M→Goal P 0 25 Q M')(a:OkB k t g q ms nu M):OkB k t g q ms nu M':=by
 rcases a with ⟨a1,a2⟩ | ⟨a1,f,a2,a3⟩
 · exact .inl ⟨a1,h _ a2⟩
 · exact .inr ⟨a1,f,a2,h _ a3⟩
theorem zfV (hs:s.length≤200000){code:Int}{t:List UInt8}{ms:List Dg}(hm:So ms ms){nu:Int}(v0:0≤nu)(v1:nu≤18446744073709551615){w:Nat→List UInt8}{q:Nat}:∀ (r m x y z:Nat) (g:Nat→List UInt8),m+r=q→0<m→z=m*1→m+x≤s.length→(∀ j,j<m→g j=w j)→St s x y→mq.ahead s x=(sl w m r).flatMap yS++(row ((zp ms).length:Nat)++(zp ms++row nu)) →
 ∃ g',sl g' 0 q=sl w 0 q∧OkB code t g' q ms nu (ALB (es g) s t code q m x y m z GW)
 | 0,m,x,y,z,g,hr,h0,hz,hmx,hg,st,ha=>by
  obtain rfl:m=q:=by omega
  exact ⟨g,xR m 0 fun j _ h=>hg j (by omega),znP hs hm v0 v1 hz st (by omega) ha⟩
 | r+1,m,x,y,z,g,hr,h0,hz,hmx,hg,st,ha=>by
  subst hz
  have hx:=st.1
  rw [jc,List.flatMap_cons] at ha
  unfold yS at ha
  simp only [List.append_assoc] at ha
  have hl:=ym st
  rw [ha] at hl
  simp only [List.length_append] at hl
  have hr1:=zL ((w m).length:Nat)
  obtain ⟨x2,y2,g1,s2,e1⟩:=wr hs st (Nat.le_refl _) ha
  have hl2:=ym s2
  rw [e1] at hl2
  simp only [List.length_append] at hl2
  obtain ⟨g',q1,q2⟩:=zfV hs (code:=code) (t:=t) hm v0 v1 (w:=w) (q:=q) r (m+1) x2 y2 (0+m*1+1) (upd g m (w m)) (by omega) (by omega) (by omega) (by omega) (fun j hj=>by
   unfold upd
   by_cases h:j=m
   · rw [if_pos h,h]
   · rw [if_neg h]; exact hg j (by omega)) s2 (by rw [e1]; unfold yS; rfl)
  refine ⟨g',q1,q2.mono fun Q h=>?_⟩
  exact (og (lBg _ (es g) (es (upd g m (w m))) _ _ (w m) _ _ _ _ _ _ _ _ _ _ GW _).symm ⟨decide_eq_true (by omega),zc s,zc s,g1,⟨⟨by omega,fun k hk=>by
   obtain rfl:k=0:=by omega
   exact ⟨_,rfl,rfl⟩⟩,by omega,by omega,by omega,by omega,by
    unfold xz
    rw [Bool.and_eq_true,Nat.ble_eq,Nat.blt_eq]
    constructor <;> omega,by omega⟩,zdT g m (w m),rfl,zc s,xe _,by rw [zoo m (by omega)]; exact h⟩)
theorem zfZ (hs:s.length≤200000){code:Int}(hc0:0≤code)(hc1:code≤14){t:List UInt8}{k:Int}(k0:0≤k)(k1:k≤18446744073709551615){rest:List UInt8}(hrest:0<rest.length)(he:row code++(row (t.length:Nat)++(t++(row k++rest)))=s) :
 ∃ x y,St s x y∧mq.ahead s x=rest∧x+1≤s.length∧∀ Q:AV→AHeap→Prop,Goal P 0 25 Q (ALA s t code k 0 x y GW)→Goal P 0 25 Q (zb P 25 [.str s] GW):=by
 have hp:=zL code
 have hlen:=congrArg List.length he
 simp only [List.length_append] at hlen
 have h0:0<s.length:=by omega
 have w:IntKind.i64.wrap code=code:=IntWalk.i64_in _ (by omega)
 have x3:rest.length+1≤s.length:=by omega
 have key:∀ cap,s.length≤cap→∃ x y,St s x y∧mq.ahead s x=rest∧∀ Q:AV→AHeap→Prop,Goal P 0 25 Q (ALA s t code k 0 x y GW)→Goal P 0 25 Q (AN (.slc 2 0 0 s.length cap) s GW):=by
  intro cap hcap
  obtain ⟨x1,y1,g0,s1,e1⟩:=zeg hs (st0 s) hcap hc0 (by omega) ((kK s).trans he.symm)
  obtain ⟨x2,y2,g1,s2,e2⟩:=wr hs s1 (Nat.le_refl _) e1
  obtain ⟨x3,y3,g2,s3,e3⟩:=zeg hs s2 (Nat.le_refl _) k0 k1 e2
  exact ⟨x3,y3,s3,e3,fun Q h=>(og (s5 _ (s) _ _ _ (s.length) (cap) _ _ _ _ _ _ GW _).symm ⟨zc s,zc s,g0,decide_eq_false (by omega),zc s,zc s,g1,zc s,zc s,g2,zc s,by rw [w]; exact h⟩)⟩
 have uniq:∀ x y,St s x y→mq.ahead s x=rest→x=rest.length:=fun x y h1 h2=>by rw [← ym h1,h2]
 refine ⟨rest.length,s.length - rest.length,⟨by omega,fun _=>by omega⟩,?_,by omega,fun Q h=>ziG h0 fun cap hcap=>?_⟩
 · obtain ⟨x,y,h1,h2,_⟩:=key s.length (Nat.le_refl _)
   rw [← uniq x y h1 h2]
   exact h2
 · obtain ⟨x,y,h1,h2,h3⟩:=key cap hcap
   have e:=uniq x y h1 h2
   have hy:=h1.2 (by omega)
   have:y=s.length - rest.length:=by omega
   rw [e,this] at h3
   exact h3 _ h
theorem zmY (hs:s.length≤200000){k:Int}(h0:0≤k)(h1:k≤14){t:List UInt8}{ms:List Dg}(hm:So ms ms){nu:Int}(v0:0≤nu)(v1:nu≤18446744073709551615)(he:zew k t [] ms nu=s):OkA k t ms nu (zb P 25 [.str s] GW):=by
 have hr:0<(row ((zp ms).length:Nat)++(zp ms++row nu)).length:=by
  have:=zL nu
  simp only [List.length_append]
  omega
 obtain ⟨x,y,st,ha,_,hgo⟩:=zfZ hs h0 h1 (t:=t) (k:=0) (by omega) (by omega) hr he
 exact (znr hs hm v0 v1 st (by omega) ha).mono hgo
theorem zne (hs:s.length≤200000){k:Int}(h0:0≤k)(h1:k≤14){t:List UInt8}{ms:List Dg}(hm:So ms ms){nu:Int}(v0:0≤nu)(v1:nu≤18446744073709551615){ps:List (List UInt8)}(hp:0<ps.length)(he:zew k t ps ms nu=s):∃ g,sl g 0 ps.length=ps∧OkB k t g ps.length ms nu (zb P 25 [.str s] GW):=by
 obtain ⟨q,hq⟩:∃ q,ps.length=q+1:=⟨ps.length - 1,by omega⟩
 have hw:sl (fun i=>ps.getD i []) 0 (q+1)=ps:=by
  refine List.ext_getElem? fun i=>?_
  by_cases hi:i<q+1
  · rw [wB _ _ _ _ hi,Nat.zero_add,List.getD_eq_getElem?_getD,List.getElem?_eq_getElem (by omega)]
    rfl
  · rw [List.getElem?_eq_none (by rw [xO]; omega),List.getElem?_eq_none (by omega)]
 generalize (fun i=>ps.getD i [])=w at hw
 have hlen:=congrArg List.length he
 unfold zew at hlen
 simp only [List.length_append] at hlen
 have hll:ps.length≤(ps.flatMap yS).length:=by
  have:∀ l:List (List UInt8),l.length≤(l.flatMap yS).length:=by
   intro l
   induction l with
   | nil=>simp
   | cons a r ih =>
    have h1:(yS a).length=(row (a.length:Nat)).length+a.length:=List.length_append
    have:=zL (a.length:Nat)
    simp only [List.flatMap_cons,List.length_append,List.length_cons,h1]
    omega
  exact this ps
 have hr:0<(ps.flatMap yS++(row ((zp ms).length:Nat)++(zp ms++row nu))).length:=by
  have:=zL nu
  simp only [List.length_append]
  omega
 obtain ⟨x,y,st,ha,_,hgo⟩:=zfZ hs h0 h1 (t:=t) (k:=(ps.length:Nat)) (by omega) (by omega) hr he
 have hps:ps.flatMap yS=yS (w 0)++(sl w 1 q).flatMap yS:=by
  rw [← hw,jc,List.flatMap_cons]
 rw [hps] at ha
 unfold yS at ha
 simp only [List.append_assoc] at ha
 have hl:=ym st
 rw [ha] at hl
 simp only [List.length_append] at hl
 have hr1:=zL ((w 0).length:Nat)
 obtain ⟨x2,y2,g1,s2,e1⟩:=wr hs st (Nat.le_refl _) ha
 have hl2:=ym s2
 rw [e1] at hl2
 simp only [List.length_append] at hl2
 have hx:=st.1
 obtain ⟨g',q1,q2⟩:=zfV hs (code:=k) (t:=t) hm v0 v1 (w:=w) (q:=q+1) q 1 x2 y2 1 (fun _=>w 0) (by omega) (by omega) (by omega) (by omega) (fun j hj=>by
  obtain rfl:j=0:=by omega
  rfl) s2 (by rw [e1]; unfold yS; rfl)
 rw [hw] at q1
 rw [← hq] at q1 q2
 refine ⟨g',q1,q2.mono fun Q h=>hgo Q ?_⟩
 exact (og (lAg _ (es (fun _=>w 0)) _ _ (w 0) _ _ _ _ _ _ _ (1) GW _).symm ⟨decide_eq_true (by omega),zc s,zc s,g1,zdr (w 0),rfl,zc s,xe _,h⟩)
end
end Go.Proofs.YtdbfpjgnlfejmaaDoor.dg
end
section
set_option maxRecDepth 100000
set_option linter.unusedVariables false
namespace Go.Proofs.YtdbfpjgnlfejmaaDoor.dg
open Go Ev mq
noncomputable def RAa (t l:List UInt8) (b:Bool) (n k i:Int) (G:T (T AV)):AM:=⟨⟨26,63,(.node (.node (.node (.node .leaf (some (.int .u64 i)) .leaf) none .leaf) none (.node .leaf (some (.ptr 2 0 0)) .leaf)) none (.node (.node .leaf (some (.ptr 1 0 0)) .leaf) (some (.ptr 0 0 0)) (.node .leaf (some (.int .u64 n)) .leaf))),
 [.code (cd P (26:Nat) [(1:Nat),(1:Nat),(1:Nat),(1:Nat),(0:Nat),(1:Nat),(0:Nat),(0:Nat)]),.inLoop (cd P (26:Nat) [(1:Nat),(1:Nat),(1:Nat),(1:Nat),(0:Nat),(1:Nat),(0:Nat),(0:Nat)]),.inBlock 0,.code (cd P (26:Nat) [(1:Nat),(1:Nat),(1:Nat),(1:Nat),(1:Nat)])],[],.run,CallKind.normal,none⟩,
 [],
 ⟨(.node (.node .leaf (some (.cells (.node (.node .leaf (some (.bool b)) .leaf) (some (.str l)) .leaf) 2 86 0 0 1 0 false .leaf)) .leaf) (some (.cells (.node (.node (.node .leaf (some (.nils 0 0)) .leaf) (some (.str [])) .leaf) (some (.int .i64 0)) (.node (.node .leaf (some (.int .u64 0)) .leaf) (some (.nils 0 0)) .leaf)) 5 45 0 0 1 0 false .leaf)) (.node .leaf (some (.cells (.node (.node (.node .leaf (some (.nils 0 0)) .leaf) (some (.str t)) .leaf) (some (.int .i64 k)) (.node (.node .leaf (some (.int .u64 0)) .leaf) (some (.nils 0 0)) .leaf)) 5 45 0 0 1 0 false .leaf)) .leaf)),3,G⟩⟩
noncomputable def RAb (pc:Nat→AV) (t l:List UInt8) (b:Bool) (n k i:Int) (q z:Nat) (G:T (T AV)):AM:=⟨⟨26,63,(.node (.node (.node (.node .leaf (some (.int .u64 i)) .leaf) none .leaf) none (.node .leaf (some (.ptr 2 0 0)) .leaf)) none (.node (.node .leaf (some (.ptr 1 0 0)) .leaf) (some (.ptr 0 0 0)) (.node .leaf (some (.int .u64 n)) .leaf))),
 [.code (cd P (26:Nat) [(1:Nat),(1:Nat),(1:Nat),(1:Nat),(0:Nat),(1:Nat),(0:Nat),(0:Nat)]),.inLoop (cd P (26:Nat) [(1:Nat),(1:Nat),(1:Nat),(1:Nat),(0:Nat),(1:Nat),(0:Nat),(0:Nat)]),.inBlock 0,.code (cd P (26:Nat) [(1:Nat),(1:Nat),(1:Nat),(1:Nat),(1:Nat)])],[],.run,CallKind.normal,none⟩,
 [],
 ⟨(.node (.node (.node .leaf (some (.cells (.fn fun j=>some (pc j)) z 9 0 0 1 0 false .leaf)) .leaf) (some (.cells (.node (.node .leaf (some (.bool b)) .leaf) (some (.str l)) .leaf) 2 86 0 0 1 0 false .leaf)) .leaf) (some (.cells (.node (.node (.node .leaf (some (.nils 0 0)) .leaf) (some (.str [])) .leaf) (some (.int .i64 0)) (.node (.node .leaf (some (.int .u64 0)) .leaf) (some (.nils 0 0)) .leaf)) 5 45 0 0 1 0 false .leaf)) (.node .leaf (some (.cells (.node (.node (.node .leaf (some (.nils 0 0)) .leaf) (some (.str t)) .leaf) (some (.int .i64 k)) (.node (.node .leaf (some (.int .u64 0)) .leaf) (some (.slg 3 0 0 q 0)) .leaf)) 5 45 0 0 1 0 false .leaf)) .leaf)),4,G⟩⟩
theorem ras (R:AV→AHeap→Prop)(s t l l2 l3:List UInt8)(n k:Int)(b b2 b3:Bool)(G:T (T AV))(K:AM→Prop):Obl P 26 (fun v h=>R v h) 0 K [.run 16,.callh [(1,0,[])] [0] (.int .u64 k) (RH l b G),.run 4,.callh [(1,0,[])] [0] (.str t) (RH l2 b2 G),.run 8,.callh [(1,0,[])] [0] (.int .u64 n) (RH l3 b3 G),.run 9,.can 0 [0,1,2] [2,4,5,6,7] []] ((zb P 26 [.str s] G))=((Goal P 1 60 (fun v h=>v=AV.int .u64 k∧h=RH l b G) (ze P 60 [.ptr 0 0 0] ⟨(.node .leaf (some (.cells (.node (.node .leaf (some (.bool false)) .leaf) (some (.str s)) .leaf) 2 86 0 0 1 0 false .leaf)) .leaf),1,G⟩))∧(Goal P 1 62 (fun v h=>v=AV.str t∧h=RH l2 b2 G) (ze P 62 [.ptr 0 0 0] ⟨(.node .leaf (some (.cells (.node (.node .leaf (some (.bool b)) .leaf) (some (.str l)) .leaf) 2 86 0 0 1 0 false .leaf)) .leaf),1,G⟩))∧(Goal P 1 60 (fun v h=>v=AV.int .u64 n∧h=RH l3 b3 G) (ze P 60 [.ptr 0 0 0] ⟨(.node .leaf (some (.cells (.node (.node .leaf (some (.bool b2)) .leaf) (some (.str l2)) .leaf) 2 86 0 0 1 0 false .leaf)) .leaf),1,G⟩))∧K (RAa t l3 b3 n (IntKind.i64.wrap (if decide ((100:Int)<k)=true then (100:Int) else k)) (Int.ofNat 0) G)):=by kernel_rfl
theorem raAg (R:AV→AHeap→Prop)(pc':Nat→AV)(t p l l2:List UInt8)(n k i:Int)(b b2:Bool)(z':Nat)(G:T (T AV))(K:AM→Prop):Obl P 26 (fun v h=>R v h) 0 K [.run 7,.know 25 true,.run 19,.know 28 true,.run 9,.callh [(1,0,[])] [0] (.str p) (RH l2 b2 G),.run 12,.told 4 (.fn fun j=>some (pc' j)) z',.can 0 [0,1,2,4] [2,4,5,6,7] []] ((RAa t l b n k i G))=((decide (i<n)=true)∧((!b)=true)∧(Goal P 1 62 (fun v h=>v=AV.str p∧h=RH l2 b2 G) (ze P 62 [.ptr 0 0 0] ⟨(.node .leaf (some (.cells (.node (.node .leaf (some (.bool b)) .leaf) (some (.str l)) .leaf) 2 86 0 0 1 0 false .leaf)) .leaf),1,G⟩))∧(some (AV.nils 0 0)=some (AV.nils 0 0))∧(xZ (z') ((.fn fun j=>some (pc' j))) ((.node .leaf (some (.str p)) .leaf)))∧(z'=1)∧(za fun j=>some (pc' j))∧K (RAb pc' t l2 b2 n k (IntKind.u64.wrap (i+(1:Int))) 1 z' G)):=by kernel_rfl
section
set_option linter.unusedSectionVars false
variable (R:AV→AHeap→Prop) (t u l l2 l3:List UInt8) (n k i nu:Int) (b b2 b3:Bool) (G:T (T AV)) (_K:AM→Prop)
include R t u l l2 l3 n k i nu b b2 b3 G _K
theorem raAq:Obl P 26 (fun v h=>R v h) 0 _K [.run 7,.know 25 true,.run 19,.know 28 false,.run 6,.callh [(1,0,[])] [0] (.str u) (RH l2 b2 G),.run 1,.callh [] [0] (.tup [.nils 0 0,.int .i64 4]) ⟨.leaf,0,G⟩,.run 16,.callh [(1,0,[])] [0] (.int .u64 nu) (RH l3 b3 G),.run 26,.can 0 [0] [2,3] [],.run 1,.done] ((RAa t l b n k i G))=((decide (i<n)=true)∧((!b)=false)∧(Goal P 1 62 (fun v h=>v=AV.str u∧h=RH l2 b2 G) (ze P 62 [.ptr 0 0 0] ⟨(.node .leaf (some (.cells (.node (.node .leaf (some (.bool b)) .leaf) (some (.str l)) .leaf) 2 86 0 0 1 0 false .leaf)) .leaf),1,G⟩))∧(Goal P 0 20 (fun v h=>v=AV.tup [AV.nils 0 0,AV.int .i64 (4:Int)]∧h={ objs:=T.leaf,next:=0,glob:=G }) (zb P 20 [.str u] G))∧(Goal P 1 60 (fun v h=>v=AV.int .u64 nu∧h=RH l3 b3 G) (ze P 60 [.ptr 0 0 0] ⟨(.node .leaf (some (.cells (.node (.node .leaf (some (.bool b2)) .leaf) (some (.str l2)) .leaf) 2 86 0 0 1 0 false .leaf)) .leaf),1,G⟩))∧(R (.tup [.agg [.int .i64 0,.str [],.nils 0 0,.nils 0 0,.int .u64 0],.int .i64 4]) (⟨(.node .leaf (some (.cells (.node (.node (.node .leaf (some (.nils 0 0)) .leaf) (some (.str [])) .leaf) (some (.int .i64 0)) (.node (.node .leaf (some (.int .u64 0)) .leaf) (some (.nils 0 0)) .leaf)) 5 45 0 0 1 0 false .leaf)) .leaf),1,G⟩))):=by kernel_rfl
theorem raAx:Obl P 26 (fun v h=>R v h) 0 _K [.run 7,.know 25 false,.run 10,.callh [(1,0,[])] [0] (.str u) (RH l2 b2 G),.run 1,.callh [] [0] (.tup [.nils 0 0,.int .i64 4]) ⟨.leaf,0,G⟩,.run 16,.callh [(1,0,[])] [0] (.int .u64 nu) (RH l3 b3 G),.run 26,.can 0 [0] [2,3] [],.run 1,.done] ((RAa t l b n k i G))=((decide (i<n)=false)∧(Goal P 1 62 (fun v h=>v=AV.str u∧h=RH l2 b2 G) (ze P 62 [.ptr 0 0 0] ⟨(.node .leaf (some (.cells (.node (.node .leaf (some (.bool b)) .leaf) (some (.str l)) .leaf) 2 86 0 0 1 0 false .leaf)) .leaf),1,G⟩))∧(Goal P 0 20 (fun v h=>v=AV.tup [AV.nils 0 0,AV.int .i64 (4:Int)]∧h={ objs:=T.leaf,next:=0,glob:=G }) (zb P 20 [.str u] G))∧(Goal P 1 60 (fun v h=>v=AV.int .u64 nu∧h=RH l3 b3 G) (ze P 60 [.ptr 0 0 0] ⟨(.node .leaf (some (.cells (.node (.node .leaf (some (.bool b2)) .leaf) (some (.str l2)) .leaf) 2 86 0 0 1 0 false .leaf)) .leaf),1,G⟩))∧(R (.tup [.agg [.int .i64 0,.str [],.nils 0 0,.nils 0 0,.int .u64 0],.int .i64 4]) (⟨(.node .leaf (some (.cells (.node (.node (.node .leaf (some (.nils 0 0)) .leaf) (some (.str [])) .leaf) (some (.int .i64 0)) (.node (.node .leaf (some (.int .u64 0)) .leaf) (some (.nils 0 0)) .leaf)) 5 45 0 0 1 0 false .leaf)) .leaf),1,G⟩))):=by kernel_rfl
theorem raAnb:Obl P 26 (fun v h=>R v h) 0 _K [.run 7,.know 25 false,.run 10,.callh [(1,0,[])] [0] (.str u) (RH l2 b2 G),.run 1,.callh [] [0] (.tup [.nils 0 0,.int .i64 0]) ⟨.leaf,0,G⟩,.run 16,.callh [(1,0,[])] [0] (.int .u64 nu) (RH l3 b3 G),.run 23,.know 8 false,.run 25,.can 0 [0] [2,3] [],.run 1,.done] ((RAa t l b n k i G))=((decide (i<n)=false)∧(Goal P 1 62 (fun v h=>v=AV.str u∧h=RH l2 b2 G) (ze P 62 [.ptr 0 0 0] ⟨(.node .leaf (some (.cells (.node (.node .leaf (some (.bool b)) .leaf) (some (.str l)) .leaf) 2 86 0 0 1 0 false .leaf)) .leaf),1,G⟩))∧(Goal P 0 20 (fun v h=>v=AV.tup [AV.nils 0 0,AV.int .i64 (0:Int)]∧h={ objs:=T.leaf,next:=0,glob:=G }) (zb P 20 [.str u] G))∧(Goal P 1 60 (fun v h=>v=AV.int .u64 nu∧h=RH l3 b3 G) (ze P 60 [.ptr 0 0 0] ⟨(.node .leaf (some (.cells (.node (.node .leaf (some (.bool b2)) .leaf) (some (.str l2)) .leaf) 2 86 0 0 1 0 false .leaf)) .leaf),1,G⟩))∧((!b3)=false)∧(R (.tup [.agg [.int .i64 0,.str [],.nils 0 0,.nils 0 0,.int .u64 0],.int .i64 4]) (⟨(.node .leaf (some (.cells (.node (.node (.node .leaf (some (.nils 0 0)) .leaf) (some (.str [])) .leaf) (some (.int .i64 0)) (.node (.node .leaf (some (.int .u64 0)) .leaf) (some (.nils 0 0)) .leaf)) 5 45 0 0 1 0 false .leaf)) .leaf),1,G⟩))):=by kernel_rfl
theorem raAnl:Obl P 26 (fun v h=>R v h) 0 _K [.run 7,.know 25 false,.run 10,.callh [(1,0,[])] [0] (.str u) (RH l2 b2 G),.run 1,.callh [] [0] (.tup [.nils 0 0,.int .i64 0]) ⟨.leaf,0,G⟩,.run 16,.callh [(1,0,[])] [0] (.int .u64 nu) (RH l3 b3 G),.run 23,.know 8 true,.run 13,.know 56 true,.run 12,.can 0 [0] [2,3] [],.run 1,.done] ((RAa t l b n k i G))=((decide (i<n)=false)∧(Goal P 1 62 (fun v h=>v=AV.str u∧h=RH l2 b2 G) (ze P 62 [.ptr 0 0 0] ⟨(.node .leaf (some (.cells (.node (.node .leaf (some (.bool b)) .leaf) (some (.str l)) .leaf) 2 86 0 0 1 0 false .leaf)) .leaf),1,G⟩))∧(Goal P 0 20 (fun v h=>v=AV.tup [AV.nils 0 0,AV.int .i64 (0:Int)]∧h={ objs:=T.leaf,next:=0,glob:=G }) (zb P 20 [.str u] G))∧(Goal P 1 60 (fun v h=>v=AV.int .u64 nu∧h=RH l3 b3 G) (ze P 60 [.ptr 0 0 0] ⟨(.node .leaf (some (.cells (.node (.node .leaf (some (.bool b2)) .leaf) (some (.str l2)) .leaf) 2 86 0 0 1 0 false .leaf)) .leaf),1,G⟩))∧((!b3)=true)∧((!l3==([]:List UInt8))=true)∧(R (.tup [.agg [.int .i64 0,.str [],.nils 0 0,.nils 0 0,.int .u64 0],.int .i64 4]) (⟨(.node .leaf (some (.cells (.node (.node (.node .leaf (some (.nils 0 0)) .leaf) (some (.str [])) .leaf) (some (.int .i64 0)) (.node (.node .leaf (some (.int .u64 0)) .leaf) (some (.nils 0 0)) .leaf)) 5 45 0 0 1 0 false .leaf)) .leaf),1,G⟩))):=by kernel_rfl
theorem raAnk:Obl P 26 (fun v h=>R v h) 0 _K [.run 7,.know 25 false,.run 10,.callh [(1,0,[])] [0] (.str u) (RH l2 b2 G),.run 1,.callh [] [0] (.tup [.nils 0 0,.int .i64 0]) ⟨.leaf,0,G⟩,.run 16,.callh [(1,0,[])] [0] (.int .u64 nu) (RH l3 b3 G),.run 23,.know 8 true,.run 13,.know 56 false,.run 5,.know 60 true,.run 7,.can 0 [0] [2,3] [],.run 1,.done] ((RAa t l b n k i G))=((decide (i<n)=false)∧(Goal P 1 62 (fun v h=>v=AV.str u∧h=RH l2 b2 G) (ze P 62 [.ptr 0 0 0] ⟨(.node .leaf (some (.cells (.node (.node .leaf (some (.bool b)) .leaf) (some (.str l)) .leaf) 2 86 0 0 1 0 false .leaf)) .leaf),1,G⟩))∧(Goal P 0 20 (fun v h=>v=AV.tup [AV.nils 0 0,AV.int .i64 (0:Int)]∧h={ objs:=T.leaf,next:=0,glob:=G }) (zb P 20 [.str u] G))∧(Goal P 1 60 (fun v h=>v=AV.int .u64 nu∧h=RH l3 b3 G) (ze P 60 [.ptr 0 0 0] ⟨(.node .leaf (some (.cells (.node (.node .leaf (some (.bool b2)) .leaf) (some (.str l2)) .leaf) 2 86 0 0 1 0 false .leaf)) .leaf),1,G⟩))∧((!b3)=true)∧((!l3==([]:List UInt8))=false)∧(decide (k > (14:Int))=true)∧(R (.tup [.agg [.int .i64 0,.str [],.nils 0 0,.nils 0 0,.int .u64 0],.int .i64 4]) (⟨(.node .leaf (some (.cells (.node (.node (.node .leaf (some (.nils 0 0)) .leaf) (some (.str [])) .leaf) (some (.int .i64 0)) (.node (.node .leaf (some (.int .u64 0)) .leaf) (some (.nils 0 0)) .leaf)) 5 45 0 0 1 0 false .leaf)) .leaf),1,G⟩))):=by kernel_rfl
theorem raAno:Obl P 26 (fun v h=>R v h) 0 _K [.run 7,.know 25 false,.run 10,.callh [(1,0,[])] [0] (.str u) (RH l2 b2 G),.run 1,.callh [] [0] (.tup [.nils 0 0,.int .i64 0]) ⟨.leaf,0,G⟩,.run 16,.callh [(1,0,[])] [0] (.int .u64 nu) (RH l3 b3 G),.run 23,.know 8 true,.run 13,.know 56 false,.run 5,.know 60 false,.run 8,.can 0 [0] [2,3] [],.run 1,.done] ((RAa t l b n k i G))=((decide (i<n)=false)∧(Goal P 1 62 (fun v h=>v=AV.str u∧h=RH l2 b2 G) (ze P 62 [.ptr 0 0 0] ⟨(.node .leaf (some (.cells (.node (.node .leaf (some (.bool b)) .leaf) (some (.str l)) .leaf) 2 86 0 0 1 0 false .leaf)) .leaf),1,G⟩))∧(Goal P 0 20 (fun v h=>v=AV.tup [AV.nils 0 0,AV.int .i64 (0:Int)]∧h={ objs:=T.leaf,next:=0,glob:=G }) (zb P 20 [.str u] G))∧(Goal P 1 60 (fun v h=>v=AV.int .u64 nu∧h=RH l3 b3 G) (ze P 60 [.ptr 0 0 0] ⟨(.node .leaf (some (.cells (.node (.node .leaf (some (.bool b2)) .leaf) (some (.str l2)) .leaf) 2 86 0 0 1 0 false .leaf)) .leaf),1,G⟩))∧((!b3)=true)∧((!l3==([]:List UInt8))=false)∧(decide (k > (14:Int))=false)∧(R (.tup [.agg [.int .i64 k,.str t,.nils 0 0,.nils 0 0,.int .u64 nu],.int .i64 0]) (⟨(.node .leaf (some (.cells (.node (.node (.node .leaf (some (.nils 0 0)) .leaf) (some (.str t)) .leaf) (some (.int .i64 k)) (.node (.node .leaf (some (.int .u64 nu)) .leaf) (some (.nils 0 0)) .leaf)) 5 45 0 0 1 0 false .leaf)) .leaf),1,G⟩))):=by kernel_rfl
end
section
set_option linter.unusedSectionVars false
variable (R:AV→AHeap→Prop) (cell:Nat→AV) (t u l l2 l3:List UInt8) (n k i nu:Int) (b b2 b3:Bool) (m zd:Nat) (G:T (T AV)) (_K:AM→Prop)
include R cell t u l l2 l3 n k i nu b b2 b3 m zd G _K
theorem raArb:Obl P 26 (fun v h=>R v h) 0 _K [.run 7,.know 25 false,.run 10,.callh [(1,0,[])] [0] (.str u) (RH l2 b2 G),.run 1,.callh [] [0] (.tup [.slg 0 0 0 m 0,.int .i64 0]) ⟨.node .leaf (some (.cells (.fn fun j=>some (cell j)) zd 35 0 0 1 0 false .leaf)) .leaf,1,G⟩,.run 16,.callh [(1,0,[])] [0] (.int .u64 nu) (RH l3 b3 G),.run 23,.know 8 false,.run 25,.can 0 [0] [2,3] [],.run 1,.done] ((RAa t l b n k i G))=((decide (i<n)=false)∧(Goal P 1 62 (fun v h=>v=AV.str u∧h=RH l2 b2 G) (ze P 62 [.ptr 0 0 0] ⟨(.node .leaf (some (.cells (.node (.node .leaf (some (.bool b)) .leaf) (some (.str l)) .leaf) 2 86 0 0 1 0 false .leaf)) .leaf),1,G⟩))∧(za fun j=>some (cell j))∧(Goal P 0 20 (fun v h=>v=AV.tup [AV.slg 0 0 0 m 0,AV.int .i64 (0:Int)]∧h={ objs:=T.leaf.node (some (AObj.cells (T.fn fun j=>some (cell j)) zd 35 0 0 1 0 false T.leaf)) T.leaf,next:=1,glob:=G }) (zb P 20 [.str u] G))∧(Goal P 1 60 (fun v h=>v=AV.int .u64 nu∧h=RH l3 b3 G) (ze P 60 [.ptr 0 0 0] ⟨(.node .leaf (some (.cells (.node (.node .leaf (some (.bool b2)) .leaf) (some (.str l2)) .leaf) 2 86 0 0 1 0 false .leaf)) .leaf),1,G⟩))∧((!b3)=false)∧(R (.tup [.agg [.int .i64 0,.str [],.nils 0 0,.nils 0 0,.int .u64 0],.int .i64 4]) (⟨(.node .leaf (some (.cells (.node (.node (.node .leaf (some (.nils 0 0)) .leaf) (some (.str [])) .leaf) (some (.int .i64 0)) (.node (.node .leaf (some (.int .u64 0)) .leaf) (some (.nils 0 0)) .leaf)) 5 45 0 0 1 0 false .leaf)) .leaf),1,G⟩))):=by kernel_rfl
theorem raArl:Obl P 26 (fun v h=>R v h) 0 _K [.run 7,.know 25 false,.run 10,.callh [(1,0,[])] [0] (.str u) (RH l2 b2 G),.run 1,.callh [] [0] (.tup [.slg 0 0 0 m 0,.int .i64 0]) ⟨.node .leaf (some (.cells (.fn fun j=>some (cell j)) zd 35 0 0 1 0 false .leaf)) .leaf,1,G⟩,.run 16,.callh [(1,0,[])] [0] (.int .u64 nu) (RH l3 b3 G),.run 23,.know 8 true,.run 13,.know 56 true,.run 12,.can 0 [0] [2,3] [],.run 1,.done] ((RAa t l b n k i G))=((decide (i<n)=false)∧(Goal P 1 62 (fun v h=>v=AV.str u∧h=RH l2 b2 G) (ze P 62 [.ptr 0 0 0] ⟨(.node .leaf (some (.cells (.node (.node .leaf (some (.bool b)) .leaf) (some (.str l)) .leaf) 2 86 0 0 1 0 false .leaf)) .leaf),1,G⟩))∧(za fun j=>some (cell j))∧(Goal P 0 20 (fun v h=>v=AV.tup [AV.slg 0 0 0 m 0,AV.int .i64 (0:Int)]∧h={ objs:=T.leaf.node (some (AObj.cells (T.fn fun j=>some (cell j)) zd 35 0 0 1 0 false T.leaf)) T.leaf,next:=1,glob:=G }) (zb P 20 [.str u] G))∧(Goal P 1 60 (fun v h=>v=AV.int .u64 nu∧h=RH l3 b3 G) (ze P 60 [.ptr 0 0 0] ⟨(.node .leaf (some (.cells (.node (.node .leaf (some (.bool b2)) .leaf) (some (.str l2)) .leaf) 2 86 0 0 1 0 false .leaf)) .leaf),1,G⟩))∧((!b3)=true)∧((!l3==([]:List UInt8))=true)∧(R (.tup [.agg [.int .i64 0,.str [],.nils 0 0,.nils 0 0,.int .u64 0],.int .i64 4]) (⟨(.node .leaf (some (.cells (.node (.node (.node .leaf (some (.nils 0 0)) .leaf) (some (.str [])) .leaf) (some (.int .i64 0)) (.node (.node .leaf (some (.int .u64 0)) .leaf) (some (.nils 0 0)) .leaf)) 5 45 0 0 1 0 false .leaf)) .leaf),1,G⟩))):=by kernel_rfl
theorem raArk:Obl P 26 (fun v h=>R v h) 0 _K [.run 7,.know 25 false,.run 10,.callh [(1,0,[])] [0] (.str u) (RH l2 b2 G),.run 1,.callh [] [0] (.tup [.slg 0 0 0 m 0,.int .i64 0]) ⟨.node .leaf (some (.cells (.fn fun j=>some (cell j)) zd 35 0 0 1 0 false .leaf)) .leaf,1,G⟩,.run 16,.callh [(1,0,[])] [0] (.int .u64 nu) (RH l3 b3 G),.run 23,.know 8 true,.run 13,.know 56 false,.run 5,.know 60 true,.run 7,.can 0 [0] [2,3] [],.run 1,.done] ((RAa t l b n k i G))=((decide (i<n)=false)∧(Goal P 1 62 (fun v h=>v=AV.str u∧h=RH l2 b2 G) (ze P 62 [.ptr 0 0 0] ⟨(.node .leaf (some (.cells (.node (.node .leaf (some (.bool b)) .leaf) (some (.str l)) .leaf) 2 86 0 0 1 0 false .leaf)) .leaf),1,G⟩))∧(za fun j=>some (cell j))∧(Goal P 0 20 (fun v h=>v=AV.tup [AV.slg 0 0 0 m 0,AV.int .i64 (0:Int)]∧h={ objs:=T.leaf.node (some (AObj.cells (T.fn fun j=>some (cell j)) zd 35 0 0 1 0 false T.leaf)) T.leaf,next:=1,glob:=G }) (zb P 20 [.str u] G))∧(Goal P 1 60 (fun v h=>v=AV.int .u64 nu∧h=RH l3 b3 G) (ze P 60 [.ptr 0 0 0] ⟨(.node .leaf (some (.cells (.node (.node .leaf (some (.bool b2)) .leaf) (some (.str l2)) .leaf) 2 86 0 0 1 0 false .leaf)) .leaf),1,G⟩))∧((!b3)=true)∧((!l3==([]:List UInt8))=false)∧(decide (k > (14:Int))=true)∧(R (.tup [.agg [.int .i64 0,.str [],.nils 0 0,.nils 0 0,.int .u64 0],.int .i64 4]) (⟨(.node .leaf (some (.cells (.node (.node (.node .leaf (some (.nils 0 0)) .leaf) (some (.str [])) .leaf) (some (.int .i64 0)) (.node (.node .leaf (some (.int .u64 0)) .leaf) (some (.nils 0 0)) .leaf)) 5 45 0 0 1 0 false .leaf)) .leaf),1,G⟩))):=by kernel_rfl
theorem raAro:Obl P 26 (fun v h=>R v h) 0 _K [.run 7,.know 25 false,.run 10,.callh [(1,0,[])] [0] (.str u) (RH l2 b2 G),.run 1,.callh [] [0] (.tup [.slg 0 0 0 m 0,.int .i64 0]) ⟨.node .leaf (some (.cells (.fn fun j=>some (cell j)) zd 35 0 0 1 0 false .leaf)) .leaf,1,G⟩,.run 16,.callh [(1,0,[])] [0] (.int .u64 nu) (RH l3 b3 G),.run 23,.know 8 true,.run 13,.know 56 false,.run 5,.know 60 false,.run 8,.can 0 [0,3] [2,3] [],.run 1,.done] ((RAa t l b n k i G))=((decide (i<n)=false)∧(Goal P 1 62 (fun v h=>v=AV.str u∧h=RH l2 b2 G) (ze P 62 [.ptr 0 0 0] ⟨(.node .leaf (some (.cells (.node (.node .leaf (some (.bool b)) .leaf) (some (.str l)) .leaf) 2 86 0 0 1 0 false .leaf)) .leaf),1,G⟩))∧(za fun j=>some (cell j))∧(Goal P 0 20 (fun v h=>v=AV.tup [AV.slg 0 0 0 m 0,AV.int .i64 (0:Int)]∧h={ objs:=T.leaf.node (some (AObj.cells (T.fn fun j=>some (cell j)) zd 35 0 0 1 0 false T.leaf)) T.leaf,next:=1,glob:=G }) (zb P 20 [.str u] G))∧(Goal P 1 60 (fun v h=>v=AV.int .u64 nu∧h=RH l3 b3 G) (ze P 60 [.ptr 0 0 0] ⟨(.node .leaf (some (.cells (.node (.node .leaf (some (.bool b2)) .leaf) (some (.str l2)) .leaf) 2 86 0 0 1 0 false .leaf)) .leaf),1,G⟩))∧((!b3)=true)∧((!l3==([]:List UInt8))=false)∧(decide (k > (14:Int))=false)∧(za fun j=>some (cell j))∧(R (.tup [.agg [.int .i64 k,.str t,.nils 0 0,.slg 1 0 0 m 0,.int .u64 nu],.int .i64 0]) (⟨(.node (.node .leaf (some (.cells (.fn fun j=>some (cell j)) zd 35 0 0 1 0 false .leaf)) .leaf) (some (.cells (.node (.node (.node .leaf (some (.slg 1 0 0 m 0)) .leaf) (some (.str t)) .leaf) (some (.int .i64 k)) (.node (.node .leaf (some (.int .u64 nu)) .leaf) (some (.nils 0 0)) .leaf)) 5 45 0 0 1 0 false .leaf)) .leaf),2,G⟩))):=by kernel_rfl
end
theorem raBg (R:AV→AHeap→Prop)(pc pc':Nat→AV)(t p l l2:List UInt8)(n k i:Int)(b b2:Bool)(q z z':Nat)(G:T (T AV))(K:AM→Prop):Obl P 26 (fun v h=>R v h) 0 K [.run 7,.know 25 true,.run 19,.know 28 true,.run 9,.callh [(1,0,[])] [0] (.str p) (RH l2 b2 G),.step,.opw false,.run 10,.told 3 (.fn fun j=>some (pc' j)) z',.can 0 [0,1,2,3] [2,4,5,6,7] []] ((RAb pc t l b n k i q z G))=((decide (i<n)=true)∧((!b)=true)∧(Goal P 1 62 (fun v h=>v=AV.str p∧h=RH l2 b2 G) (ze P 62 [.ptr 0 0 0] ⟨(.node .leaf (some (.cells (.node (.node .leaf (some (.bool b)) .leaf) (some (.str l)) .leaf) 2 86 0 0 1 0 false .leaf)) .leaf),1,G⟩))∧(some (AV.slg 3 0 0 q 0)=some (AV.slg 3 0 0 q 0))∧(some (AV.slg 3 0 0 q 0)=some (AV.slg 3 0 0 q 0))∧((0+1*1≤1∧∀ (k:Nat),k<1*1→∃ v,(T.leaf.node (some (AV.str p)) T.leaf).get (0+k)=some v∧v.one=true)∧0<1∧0+q*1≤z∧0≤0+q*1∧0=0*1∧xz (q+1) 16=true∧z<0+(q+1)*1)∧(xZ (z') ((.fn fun j=>some (pc' j))) ((.fn fun k=>bif (0+q*1).ble k&&k.blt (0+q*1+1*1) then (fun k=>(T.leaf.node (some (AV.str p)) T.leaf).get (0+k)) (k - (0+q*1)) else (T.fn fun j=>some (pc j)).get k)))∧(z'=0+q*1+1)∧(za fun j=>some (pc' j))∧K (RAb pc' t l2 b2 n k (IntKind.u64.wrap (i+(1:Int))) (q+1) z' G)):=by kernel_rfl
section
set_option linter.unusedSectionVars false
variable (R:AV→AHeap→Prop) (pc:Nat→AV) (t u l l2 l3:List UInt8) (n k i nu:Int) (b b2 b3:Bool) (q z:Nat) (G:T (T AV)) (_K:AM→Prop)
include R pc t u l l2 l3 n k i nu b b2 b3 q z G _K
theorem raBq:Obl P 26 (fun v h=>R v h) 0 _K [.run 7,.know 25 true,.run 19,.know 28 false,.run 6,.callh [(1,0,[])] [0] (.str u) (RH l2 b2 G),.run 1,.callh [] [0] (.tup [.nils 0 0,.int .i64 4]) ⟨.leaf,0,G⟩,.run 16,.callh [(1,0,[])] [0] (.int .u64 nu) (RH l3 b3 G),.run 26,.can 0 [0] [2,3] [],.run 1,.done] ((RAb pc t l b n k i q z G))=((decide (i<n)=true)∧((!b)=false)∧(Goal P 1 62 (fun v h=>v=AV.str u∧h=RH l2 b2 G) (ze P 62 [.ptr 0 0 0] ⟨(.node .leaf (some (.cells (.node (.node .leaf (some (.bool b)) .leaf) (some (.str l)) .leaf) 2 86 0 0 1 0 false .leaf)) .leaf),1,G⟩))∧(Goal P 0 20 (fun v h=>v=AV.tup [AV.nils 0 0,AV.int .i64 (4:Int)]∧h={ objs:=T.leaf,next:=0,glob:=G }) (zb P 20 [.str u] G))∧(Goal P 1 60 (fun v h=>v=AV.int .u64 nu∧h=RH l3 b3 G) (ze P 60 [.ptr 0 0 0] ⟨(.node .leaf (some (.cells (.node (.node .leaf (some (.bool b2)) .leaf) (some (.str l2)) .leaf) 2 86 0 0 1 0 false .leaf)) .leaf),1,G⟩))∧(R (.tup [.agg [.int .i64 0,.str [],.nils 0 0,.nils 0 0,.int .u64 0],.int .i64 4]) (⟨(.node .leaf (some (.cells (.node (.node (.node .leaf (some (.nils 0 0)) .leaf) (some (.str [])) .leaf) (some (.int .i64 0)) (.node (.node .leaf (some (.int .u64 0)) .leaf) (some (.nils 0 0)) .leaf)) 5 45 0 0 1 0 false .leaf)) .leaf),1,G⟩))):=by kernel_rfl
theorem raBx:Obl P 26 (fun v h=>R v h) 0 _K [.run 7,.know 25 false,.run 10,.callh [(1,0,[])] [0] (.str u) (RH l2 b2 G),.run 1,.callh [] [0] (.tup [.nils 0 0,.int .i64 4]) ⟨.leaf,0,G⟩,.run 16,.callh [(1,0,[])] [0] (.int .u64 nu) (RH l3 b3 G),.run 26,.can 0 [0] [2,3] [],.run 1,.done] ((RAb pc t l b n k i q z G))=((decide (i<n)=false)∧(Goal P 1 62 (fun v h=>v=AV.str u∧h=RH l2 b2 G) (ze P 62 [.ptr 0 0 0] ⟨(.node .leaf (some (.cells (.node (.node .leaf (some (.bool b)) .leaf) (some (.str l)) .leaf) 2 86 0 0 1 0 false .leaf)) .leaf),1,G⟩))∧(Goal P 0 20 (fun v h=>v=AV.tup [AV.nils 0 0,AV.int .i64 (4:Int)]∧h={ objs:=T.leaf,next:=0,glob:=G }) (zb P 20 [.str u] G))∧(Goal P 1 60 (fun v h=>v=AV.int .u64 nu∧h=RH l3 b3 G) (ze P 60 [.ptr 0 0 0] ⟨(.node .leaf (some (.cells (.node (.node .leaf (some (.bool b2)) .leaf) (some (.str l2)) .leaf) 2 86 0 0 1 0 false .leaf)) .leaf),1,G⟩))∧(R (.tup [.agg [.int .i64 0,.str [],.nils 0 0,.nils 0 0,.int .u64 0],.int .i64 4]) (⟨(.node .leaf (some (.cells (.node (.node (.node .leaf (some (.nils 0 0)) .leaf) (some (.str [])) .leaf) (some (.int .i64 0)) (.node (.node .leaf (some (.int .u64 0)) .leaf) (some (.nils 0 0)) .leaf)) 5 45 0 0 1 0 false .leaf)) .leaf),1,G⟩))):=by kernel_rfl
theorem raBnb:Obl P 26 (fun v h=>R v h) 0 _K [.run 7,.know 25 false,.run 10,.callh [(1,0,[])] [0] (.str u) (RH l2 b2 G),.run 1,.callh [] [0] (.tup [.nils 0 0,.int .i64 0]) ⟨.leaf,0,G⟩,.run 16,.callh [(1,0,[])] [0] (.int .u64 nu) (RH l3 b3 G),.run 23,.know 8 false,.run 25,.can 0 [0] [2,3] [],.run 1,.done] ((RAb pc t l b n k i q z G))=((decide (i<n)=false)∧(Goal P 1 62 (fun v h=>v=AV.str u∧h=RH l2 b2 G) (ze P 62 [.ptr 0 0 0] ⟨(.node .leaf (some (.cells (.node (.node .leaf (some (.bool b)) .leaf) (some (.str l)) .leaf) 2 86 0 0 1 0 false .leaf)) .leaf),1,G⟩))∧(Goal P 0 20 (fun v h=>v=AV.tup [AV.nils 0 0,AV.int .i64 (0:Int)]∧h={ objs:=T.leaf,next:=0,glob:=G }) (zb P 20 [.str u] G))∧(Goal P 1 60 (fun v h=>v=AV.int .u64 nu∧h=RH l3 b3 G) (ze P 60 [.ptr 0 0 0] ⟨(.node .leaf (some (.cells (.node (.node .leaf (some (.bool b2)) .leaf) (some (.str l2)) .leaf) 2 86 0 0 1 0 false .leaf)) .leaf),1,G⟩))∧((!b3)=false)∧(R (.tup [.agg [.int .i64 0,.str [],.nils 0 0,.nils 0 0,.int .u64 0],.int .i64 4]) (⟨(.node .leaf (some (.cells (.node (.node (.node .leaf (some (.nils 0 0)) .leaf) (some (.str [])) .leaf) (some (.int .i64 0)) (.node (.node .leaf (some (.int .u64 0)) .leaf) (some (.nils 0 0)) .leaf)) 5 45 0 0 1 0 false .leaf)) .leaf),1,G⟩))):=by kernel_rfl
theorem raBnl:Obl P 26 (fun v h=>R v h) 0 _K [.run 7,.know 25 false,.run 10,.callh [(1,0,[])] [0] (.str u) (RH l2 b2 G),.run 1,.callh [] [0] (.tup [.nils 0 0,.int .i64 0]) ⟨.leaf,0,G⟩,.run 16,.callh [(1,0,[])] [0] (.int .u64 nu) (RH l3 b3 G),.run 23,.know 8 true,.run 13,.know 56 true,.run 12,.can 0 [0] [2,3] [],.run 1,.done] ((RAb pc t l b n k i q z G))=((decide (i<n)=false)∧(Goal P 1 62 (fun v h=>v=AV.str u∧h=RH l2 b2 G) (ze P 62 [.ptr 0 0 0] ⟨(.node .leaf (some (.cells (.node (.node .leaf (some (.bool b)) .leaf) (some (.str l)) .leaf) 2 86 0 0 1 0 false .leaf)) .leaf),1,G⟩))∧(Goal P 0 20 (fun v h=>v=AV.tup [AV.nils 0 0,AV.int .i64 (0:Int)]∧h={ objs:=T.leaf,next:=0,glob:=G }) (zb P 20 [.str u] G))∧(Goal P 1 60 (fun v h=>v=AV.int .u64 nu∧h=RH l3 b3 G) (ze P 60 [.ptr 0 0 0] ⟨(.node .leaf (some (.cells (.node (.node .leaf (some (.bool b2)) .leaf) (some (.str l2)) .leaf) 2 86 0 0 1 0 false .leaf)) .leaf),1,G⟩))∧((!b3)=true)∧((!l3==([]:List UInt8))=true)∧(R (.tup [.agg [.int .i64 0,.str [],.nils 0 0,.nils 0 0,.int .u64 0],.int .i64 4]) (⟨(.node .leaf (some (.cells (.node (.node (.node .leaf (some (.nils 0 0)) .leaf) (some (.str [])) .leaf) (some (.int .i64 0)) (.node (.node .leaf (some (.int .u64 0)) .leaf) (some (.nils 0 0)) .leaf)) 5 45 0 0 1 0 false .leaf)) .leaf),1,G⟩))):=by kernel_rfl
theorem raBnk:Obl P 26 (fun v h=>R v h) 0 _K [.run 7,.know 25 false,.run 10,.callh [(1,0,[])] [0] (.str u) (RH l2 b2 G),.run 1,.callh [] [0] (.tup [.nils 0 0,.int .i64 0]) ⟨.leaf,0,G⟩,.run 16,.callh [(1,0,[])] [0] (.int .u64 nu) (RH l3 b3 G),.run 23,.know 8 true,.run 13,.know 56 false,.run 5,.know 60 true,.run 7,.can 0 [0] [2,3] [],.run 1,.done] ((RAb pc t l b n k i q z G))=((decide (i<n)=false)∧(Goal P 1 62 (fun v h=>v=AV.str u∧h=RH l2 b2 G) (ze P 62 [.ptr 0 0 0] ⟨(.node .leaf (some (.cells (.node (.node .leaf (some (.bool b)) .leaf) (some (.str l)) .leaf) 2 86 0 0 1 0 false .leaf)) .leaf),1,G⟩))∧(Goal P 0 20 (fun v h=>v=AV.tup [AV.nils 0 0,AV.int .i64 (0:Int)]∧h={ objs:=T.leaf,next:=0,glob:=G }) (zb P 20 [.str u] G))∧(Goal P 1 60 (fun v h=>v=AV.int .u64 nu∧h=RH l3 b3 G) (ze P 60 [.ptr 0 0 0] ⟨(.node .leaf (some (.cells (.node (.node .leaf (some (.bool b2)) .leaf) (some (.str l2)) .leaf) 2 86 0 0 1 0 false .leaf)) .leaf),1,G⟩))∧((!b3)=true)∧((!l3==([]:List UInt8))=false)∧(decide (k > (14:Int))=true)∧(R (.tup [.agg [.int .i64 0,.str [],.nils 0 0,.nils 0 0,.int .u64 0],.int .i64 4]) (⟨(.node .leaf (some (.cells (.node (.node (.node .leaf (some (.nils 0 0)) .leaf) (some (.str [])) .leaf) (some (.int .i64 0)) (.node (.node .leaf (some (.int .u64 0)) .leaf) (some (.nils 0 0)) .leaf)) 5 45 0 0 1 0 false .leaf)) .leaf),1,G⟩))):=by kernel_rfl
theorem raBno:Obl P 26 (fun v h=>R v h) 0 _K [.run 7,.know 25 false,.run 10,.callh [(1,0,[])] [0] (.str u) (RH l2 b2 G),.run 1,.callh [] [0] (.tup [.nils 0 0,.int .i64 0]) ⟨.leaf,0,G⟩,.run 16,.callh [(1,0,[])] [0] (.int .u64 nu) (RH l3 b3 G),.run 23,.know 8 true,.run 13,.know 56 false,.run 5,.know 60 false,.run 8,.can 0 [0,3] [2,3] [],.run 1,.done] ((RAb pc t l b n k i q z G))=((decide (i<n)=false)∧(Goal P 1 62 (fun v h=>v=AV.str u∧h=RH l2 b2 G) (ze P 62 [.ptr 0 0 0] ⟨(.node .leaf (some (.cells (.node (.node .leaf (some (.bool b)) .leaf) (some (.str l)) .leaf) 2 86 0 0 1 0 false .leaf)) .leaf),1,G⟩))∧(Goal P 0 20 (fun v h=>v=AV.tup [AV.nils 0 0,AV.int .i64 (0:Int)]∧h={ objs:=T.leaf,next:=0,glob:=G }) (zb P 20 [.str u] G))∧(Goal P 1 60 (fun v h=>v=AV.int .u64 nu∧h=RH l3 b3 G) (ze P 60 [.ptr 0 0 0] ⟨(.node .leaf (some (.cells (.node (.node .leaf (some (.bool b2)) .leaf) (some (.str l2)) .leaf) 2 86 0 0 1 0 false .leaf)) .leaf),1,G⟩))∧((!b3)=true)∧((!l3==([]:List UInt8))=false)∧(decide (k > (14:Int))=false)∧(za fun j=>some (pc j))∧(R (.tup [.agg [.int .i64 k,.str t,.slg 1 0 0 q 0,.nils 0 0,.int .u64 nu],.int .i64 0]) (⟨(.node (.node .leaf (some (.cells (.fn fun j=>some (pc j)) z 9 0 0 1 0 false .leaf)) .leaf) (some (.cells (.node (.node (.node .leaf (some (.nils 0 0)) .leaf) (some (.str t)) .leaf) (some (.int .i64 k)) (.node (.node .leaf (some (.int .u64 nu)) .leaf) (some (.slg 1 0 0 q 0)) .leaf)) 5 45 0 0 1 0 false .leaf)) .leaf),2,G⟩))):=by kernel_rfl
end
section
set_option linter.unusedSectionVars false
variable (R:AV→AHeap→Prop) (cell pc:Nat→AV) (t u l l2 l3:List UInt8) (n k i nu:Int) (b b2 b3:Bool) (q m z zd:Nat) (G:T (T AV)) (_K:AM→Prop)
include R cell pc t u l l2 l3 n k i nu b b2 b3 q m z zd G _K
theorem raBrb:Obl P 26 (fun v h=>R v h) 0 _K [.run 7,.know 25 false,.run 10,.callh [(1,0,[])] [0] (.str u) (RH l2 b2 G),.run 1,.callh [] [0] (.tup [.slg 0 0 0 m 0,.int .i64 0]) ⟨.node .leaf (some (.cells (.fn fun j=>some (cell j)) zd 35 0 0 1 0 false .leaf)) .leaf,1,G⟩,.run 16,.callh [(1,0,[])] [0] (.int .u64 nu) (RH l3 b3 G),.run 23,.know 8 false,.run 25,.can 0 [0] [2,3] [],.run 1,.done] ((RAb pc t l b n k i q z G))=((decide (i<n)=false)∧(Goal P 1 62 (fun v h=>v=AV.str u∧h=RH l2 b2 G) (ze P 62 [.ptr 0 0 0] ⟨(.node .leaf (some (.cells (.node (.node .leaf (some (.bool b)) .leaf) (some (.str l)) .leaf) 2 86 0 0 1 0 false .leaf)) .leaf),1,G⟩))∧(za fun j=>some (cell j))∧(Goal P 0 20 (fun v h=>v=AV.tup [AV.slg 0 0 0 m 0,AV.int .i64 (0:Int)]∧h={ objs:=T.leaf.node (some (AObj.cells (T.fn fun j=>some (cell j)) zd 35 0 0 1 0 false T.leaf)) T.leaf,next:=1,glob:=G }) (zb P 20 [.str u] G))∧(Goal P 1 60 (fun v h=>v=AV.int .u64 nu∧h=RH l3 b3 G) (ze P 60 [.ptr 0 0 0] ⟨(.node .leaf (some (.cells (.node (.node .leaf (some (.bool b2)) .leaf) (some (.str l2)) .leaf) 2 86 0 0 1 0 false .leaf)) .leaf),1,G⟩))∧((!b3)=false)∧(R (.tup [.agg [.int .i64 0,.str [],.nils 0 0,.nils 0 0,.int .u64 0],.int .i64 4]) (⟨(.node .leaf (some (.cells (.node (.node (.node .leaf (some (.nils 0 0)) .leaf) (some (.str [])) .leaf) (some (.int .i64 0)) (.node (.node .leaf (some (.int .u64 0)) .leaf) (some (.nils 0 0)) .leaf)) 5 45 0 0 1 0 false .leaf)) .leaf),1,G⟩))):=by kernel_rfl
theorem raBrl:Obl P 26 (fun v h=>R v h) 0 _K [.run 7,.know 25 false,.run 10,.callh [(1,0,[])] [0] (.str u) (RH l2 b2 G),.run 1,.callh [] [0] (.tup [.slg 0 0 0 m 0,.int .i64 0]) ⟨.node .leaf (some (.cells (.fn fun j=>some (cell j)) zd 35 0 0 1 0 false .leaf)) .leaf,1,G⟩,.run 16,.callh [(1,0,[])] [0] (.int .u64 nu) (RH l3 b3 G),.run 23,.know 8 true,.run 13,.know 56 true,.run 12,.can 0 [0] [2,3] [],.run 1,.done] ((RAb pc t l b n k i q z G))=((decide (i<n)=false)∧(Goal P 1 62 (fun v h=>v=AV.str u∧h=RH l2 b2 G) (ze P 62 [.ptr 0 0 0] ⟨(.node .leaf (some (.cells (.node (.node .leaf (some (.bool b)) .leaf) (some (.str l)) .leaf) 2 86 0 0 1 0 false .leaf)) .leaf),1,G⟩))∧(za fun j=>some (cell j))∧(Goal P 0 20 (fun v h=>v=AV.tup [AV.slg 0 0 0 m 0,AV.int .i64 (0:Int)]∧h={ objs:=T.leaf.node (some (AObj.cells (T.fn fun j=>some (cell j)) zd 35 0 0 1 0 false T.leaf)) T.leaf,next:=1,glob:=G }) (zb P 20 [.str u] G))∧(Goal P 1 60 (fun v h=>v=AV.int .u64 nu∧h=RH l3 b3 G) (ze P 60 [.ptr 0 0 0] ⟨(.node .leaf (some (.cells (.node (.node .leaf (some (.bool b2)) .leaf) (some (.str l2)) .leaf) 2 86 0 0 1 0 false .leaf)) .leaf),1,G⟩))∧((!b3)=true)∧((!l3==([]:List UInt8))=true)∧(R (.tup [.agg [.int .i64 0,.str [],.nils 0 0,.nils 0 0,.int .u64 0],.int .i64 4]) (⟨(.node .leaf (some (.cells (.node (.node (.node .leaf (some (.nils 0 0)) .leaf) (some (.str [])) .leaf) (some (.int .i64 0)) (.node (.node .leaf (some (.int .u64 0)) .leaf) (some (.nils 0 0)) .leaf)) 5 45 0 0 1 0 false .leaf)) .leaf),1,G⟩))):=by kernel_rfl
theorem raBrk:Obl P 26 (fun v h=>R v h) 0 _K [.run 7,.know 25 false,.run 10,.callh [(1,0,[])] [0] (.str u) (RH l2 b2 G),.run 1,.callh [] [0] (.tup [.slg 0 0 0 m 0,.int .i64 0]) ⟨.node .leaf (some (.cells (.fn fun j=>some (cell j)) zd 35 0 0 1 0 false .leaf)) .leaf,1,G⟩,.run 16,.callh [(1,0,[])] [0] (.int .u64 nu) (RH l3 b3 G),.run 23,.know 8 true,.run 13,.know 56 false,.run 5,.know 60 true,.run 7,.can 0 [0] [2,3] [],.run 1,.done] ((RAb pc t l b n k i q z G))=((decide (i<n)=false)∧(Goal P 1 62 (fun v h=>v=AV.str u∧h=RH l2 b2 G) (ze P 62 [.ptr 0 0 0] ⟨(.node .leaf (some (.cells (.node (.node .leaf (some (.bool b)) .leaf) (some (.str l)) .leaf) 2 86 0 0 1 0 false .leaf)) .leaf),1,G⟩))∧(za fun j=>some (cell j))∧(Goal P 0 20 (fun v h=>v=AV.tup [AV.slg 0 0 0 m 0,AV.int .i64 (0:Int)]∧h={ objs:=T.leaf.node (some (AObj.cells (T.fn fun j=>some (cell j)) zd 35 0 0 1 0 false T.leaf)) T.leaf,next:=1,glob:=G }) (zb P 20 [.str u] G))∧(Goal P 1 60 (fun v h=>v=AV.int .u64 nu∧h=RH l3 b3 G) (ze P 60 [.ptr 0 0 0] ⟨(.node .leaf (some (.cells (.node (.node .leaf (some (.bool b2)) .leaf) (some (.str l2)) .leaf) 2 86 0 0 1 0 false .leaf)) .leaf),1,G⟩))∧((!b3)=true)∧((!l3==([]:List UInt8))=false)∧(decide (k > (14:Int))=true)∧(R (.tup [.agg [.int .i64 0,.str [],.nils 0 0,.nils 0 0,.int .u64 0],.int .i64 4]) (⟨(.node .leaf (some (.cells (.node (.node (.node .leaf (some (.nils 0 0)) .leaf) (some (.str [])) .leaf) (some (.int .i64 0)) (.node (.node .leaf (some (.int .u64 0)) .leaf) (some (.nils 0 0)) .leaf)) 5 45 0 0 1 0 false .leaf)) .leaf),1,G⟩))):=by kernel_rfl
theorem raBro:Obl P 26 (fun v h=>R v h) 0 _K [.run 7,.know 25 false,.run 10,.callh [(1,0,[])] [0] (.str u) (RH l2 b2 G),.run 1,.callh [] [0] (.tup [.slg 0 0 0 m 0,.int .i64 0]) ⟨.node .leaf (some (.cells (.fn fun j=>some (cell j)) zd 35 0 0 1 0 false .leaf)) .leaf,1,G⟩,.run 16,.callh [(1,0,[])] [0] (.int .u64 nu) (RH l3 b3 G),.run 23,.know 8 true,.run 13,.know 56 false,.run 5,.know 60 false,.run 8,.can 0 [0,4,3] [2,3] [],.run 1,.done] ((RAb pc t l b n k i q z G))=((decide (i<n)=false)∧(Goal P 1 62 (fun v h=>v=AV.str u∧h=RH l2 b2 G) (ze P 62 [.ptr 0 0 0] ⟨(.node .leaf (some (.cells (.node (.node .leaf (some (.bool b)) .leaf) (some (.str l)) .leaf) 2 86 0 0 1 0 false .leaf)) .leaf),1,G⟩))∧(za fun j=>some (cell j))∧(Goal P 0 20 (fun v h=>v=AV.tup [AV.slg 0 0 0 m 0,AV.int .i64 (0:Int)]∧h={ objs:=T.leaf.node (some (AObj.cells (T.fn fun j=>some (cell j)) zd 35 0 0 1 0 false T.leaf)) T.leaf,next:=1,glob:=G }) (zb P 20 [.str u] G))∧(Goal P 1 60 (fun v h=>v=AV.int .u64 nu∧h=RH l3 b3 G) (ze P 60 [.ptr 0 0 0] ⟨(.node .leaf (some (.cells (.node (.node .leaf (some (.bool b2)) .leaf) (some (.str l2)) .leaf) 2 86 0 0 1 0 false .leaf)) .leaf),1,G⟩))∧((!b3)=true)∧((!l3==([]:List UInt8))=false)∧(decide (k > (14:Int))=false)∧(za fun j=>some (cell j))∧(za fun j=>some (pc j))∧(R (.tup [.agg [.int .i64 k,.str t,.slg 2 0 0 q 0,.slg 1 0 0 m 0,.int .u64 nu],.int .i64 0]) (⟨(.node (.node .leaf (some (.cells (.fn fun j=>some (cell j)) zd 35 0 0 1 0 false .leaf)) .leaf) (some (.cells (.node (.node (.node .leaf (some (.slg 1 0 0 m 0)) .leaf) (some (.str t)) .leaf) (some (.int .i64 k)) (.node (.node .leaf (some (.int .u64 nu)) .leaf) (some (.slg 2 0 0 q 0)) .leaf)) 5 45 0 0 1 0 false .leaf)) (.node .leaf (some (.cells (.fn fun j=>some (pc j)) z 9 0 0 1 0 false .leaf)) .leaf)),3,G⟩))):=by kernel_rfl
end
abbrev zds (m:AM):Prop:=Goal P 0 26 (fun v h=>v=.tup [.agg [.int .i64 0,.str [],.nils 0 0,.nils 0 0,.int .u64 0],.int .i64 4]∧h=HR0 GW) m
theorem yw:zmn (zb P 20 [.str []] GW):=zc3 (by simp) fun l _ h=>by
 have:=vQ l
 rw [h] at this
 simp at this
theorem znJ {t:List UInt8}{n k i:Int}:zds (RAa  t [] true n k i GW):=by
 by_cases hi:i<n
 · exact (og (raAq _ (t) ([]) ([]) ([]) ([]) (n) (k) (i) (0) (true) (true) (true) GW _).symm ⟨decide_eq_true hi,rfl,zhJ,yw,zkY,⟨rfl,rfl⟩⟩)
 · exact (og (raAx _ (t) ([]) ([]) ([]) ([]) (n) (k) (i) (0) (true) (true) (true) GW _).symm ⟨decide_eq_false hi,zhJ,yw,zkY,⟨rfl,rfl⟩⟩)
theorem zpM {t:List UInt8}{n k i:Int}{g:Nat→List UInt8}{q z:Nat}:zds (RAb (es g) t [] true n k i q z GW):=by
 by_cases hi:i<n
 · exact (og (raBq _ (es g) (t) ([]) ([]) ([]) ([]) (n) (k) (i) (0) (true) (true) (true) (q) (z) GW _).symm ⟨decide_eq_true hi,rfl,zhJ,yw,zkY,⟨rfl,rfl⟩⟩)
 · exact (og (raBx _ (es g) (t) ([]) ([]) ([]) ([]) (n) (k) (i) (0) (true) (true) (true) (q) (z) GW _).symm ⟨decide_eq_false hi,zhJ,yw,zkY,⟨rfl,rfl⟩⟩)
abbrev Tail (l:List UInt8):Prop:=∃ ms,So ms ms∧∃ nu:Int,0≤nu∧nu≤18446744073709551615∧l=row ((zp ms).length:Nat)++(zp ms++row nu)
theorem znK {t l:List UInt8}{n k:Int}{g:Nat→List UInt8}{q z:Nat}(hl:l.length≤100000)(hi:¬ (q:Int)<n)(hno:¬ k > 14→¬ Tail l):zds (RAb (es g) t l false n k (q:Int) q z GW):=by
 rcases zmi l hl with ⟨u,l2,e1,g1⟩ | g1
 · have hu:u.length≤100000:=by
    have:=congrArg List.length e1
    simp only [List.length_append] at this
    omega
   by_cases hex:∃ ms,So ms ms∧zp ms=u
   · obtain ⟨ms,hm,he⟩:=hex
     rcases zcn hu hm he with ⟨_,h⟩ | ⟨_,f1,_,h⟩
     · rcases zlO l2 with ⟨nu,l3,v0,v1,e2,g2⟩ | g2
       · by_cases h3:l3=[]
         · by_cases hk:k > 14
           · subst h3
             exact (og (raBnk _ (es g) (t) (u) (l) (l2) ([]) (n) (k) ((q:Int)) (nu) (false) (false) (false) (q) (z) GW _).symm ⟨decide_eq_false hi,g1,h,g2,rfl,neF rfl,decide_eq_true hk,⟨rfl,rfl⟩⟩)
           · exact absurd ⟨ms,hm,nu,v0,v1,by rw [e1,e2,h3,List.append_nil,he]⟩ (hno hk)
         · exact (og (raBnl _ (es g) (t) (u) (l) (l2) (l3) (n) (k) ((q:Int)) (nu) (false) (false) (false) (q) (z) GW _).symm ⟨decide_eq_false hi,g1,h,g2,rfl,neT h3,⟨rfl,rfl⟩⟩)
       · exact (og (raBnb _ (es g) (t) (u) (l) (l2) ([]) (n) (k) ((q:Int)) (0) (false) (false) (true) (q) (z) GW _).symm ⟨decide_eq_false hi,g1,h,g2,rfl,⟨rfl,rfl⟩⟩)
     · rcases zlO l2 with ⟨nu,l3,v0,v1,e2,g2⟩ | g2
       · by_cases h3:l3=[]
         · by_cases hk:k > 14
           · subst h3
             exact (og (raBrk _ (el f1) (es g) (t) (u) (l) (l2) ([]) (n) (k) ((q:Int)) (nu) (false) (false) (false) (q) (ms.length) (z) (ms.length*3) GW _).symm ⟨decide_eq_false hi,g1,zh _,h,g2,rfl,neF rfl,decide_eq_true hk,⟨rfl,rfl⟩⟩)
           · exact absurd ⟨ms,hm,nu,v0,v1,by rw [e1,e2,h3,List.append_nil,he]⟩ (hno hk)
         · exact (og (raBrl _ (el f1) (es g) (t) (u) (l) (l2) (l3) (n) (k) ((q:Int)) (nu) (false) (false) (false) (q) (ms.length) (z) (ms.length*3) GW _).symm ⟨decide_eq_false hi,g1,zh _,h,g2,rfl,neT h3,⟨rfl,rfl⟩⟩)
       · exact (og (raBrb _ (el f1) (es g) (t) (u) (l) (l2) ([]) (n) (k) ((q:Int)) (0) (false) (false) (true) (q) (ms.length) (z) (ms.length*3) GW _).symm ⟨decide_eq_false hi,g1,zh _,h,g2,rfl,⟨rfl,rfl⟩⟩)
   · have h:=zc3 hu fun ms hm he=>hex ⟨ms,hm,he⟩
     rcases zlO l2 with ⟨nu,l3,v0,v1,e2,g2⟩ | g2
     · exact (og (raBx _ (es g) (t) (u) (l) (l2) (l3) (n) (k) ((q:Int)) (nu) (false) (false) (false) (q) (z) GW _).symm ⟨decide_eq_false hi,g1,h,g2,⟨rfl,rfl⟩⟩)
     · exact (og (raBx _ (es g) (t) (u) (l) (l2) ([]) (n) (k) ((q:Int)) (0) (false) (false) (true) (q) (z) GW _).symm ⟨decide_eq_false hi,g1,h,g2,⟨rfl,rfl⟩⟩)
 · exact (og (raBx _ (es g) (t) ([]) (l) ([]) ([]) (n) (k) ((q:Int)) (0) (false) (true) (true) (q) (z) GW _).symm ⟨decide_eq_false hi,g1,yw,zkY,⟨rfl,rfl⟩⟩)
theorem zmU {t l:List UInt8}{n k:Int}(hl:l.length≤100000)(hi:¬ (0:Int)<n)(hno:¬ k > 14→¬ Tail l):zds (RAa t l false n k 0 GW):=by
 rcases zmi l hl with ⟨u,l2,e1,g1⟩ | g1
 · have hu:u.length≤100000:=by
    have:=congrArg List.length e1
    simp only [List.length_append] at this
    omega
   by_cases hex:∃ ms,So ms ms∧zp ms=u
   · obtain ⟨ms,hm,he⟩:=hex
     rcases zcn hu hm he with ⟨_,h⟩ | ⟨_,f1,_,h⟩
     · rcases zlO l2 with ⟨nu,l3,v0,v1,e2,g2⟩ | g2
       · by_cases h3:l3=[]
         · by_cases hk:k > 14
           · subst h3
             exact (og (raAnk _ (t) (u) (l) (l2) ([]) (n) (k) (0) (nu) (false) (false) (false) GW _).symm ⟨decide_eq_false hi,g1,h,g2,rfl,neF rfl,decide_eq_true hk,⟨rfl,rfl⟩⟩)
           · exact absurd ⟨ms,hm,nu,v0,v1,by rw [e1,e2,h3,List.append_nil,he]⟩ (hno hk)
         · exact (og (raAnl _ (t) (u) (l) (l2) (l3) (n) (k) (0) (nu) (false) (false) (false) GW _).symm ⟨decide_eq_false hi,g1,h,g2,rfl,neT h3,⟨rfl,rfl⟩⟩)
       · exact (og (raAnb _ (t) (u) (l) (l2) ([]) (n) (k) (0) (0) (false) (false) (true) GW _).symm ⟨decide_eq_false hi,g1,h,g2,rfl,⟨rfl,rfl⟩⟩)
     · rcases zlO l2 with ⟨nu,l3,v0,v1,e2,g2⟩ | g2
       · by_cases h3:l3=[]
         · by_cases hk:k > 14
           · subst h3
             exact (og (raArk _ (el f1) (t) (u) (l) (l2) ([]) (n) (k) (0) (nu) (false) (false) (false) (ms.length) (ms.length*3) GW _).symm ⟨decide_eq_false hi,g1,zh _,h,g2,rfl,neF rfl,decide_eq_true hk,⟨rfl,rfl⟩⟩)
           · exact absurd ⟨ms,hm,nu,v0,v1,by rw [e1,e2,h3,List.append_nil,he]⟩ (hno hk)
         · exact (og (raArl _ (el f1) (t) (u) (l) (l2) (l3) (n) (k) (0) (nu) (false) (false) (false) (ms.length) (ms.length*3) GW _).symm ⟨decide_eq_false hi,g1,zh _,h,g2,rfl,neT h3,⟨rfl,rfl⟩⟩)
       · exact (og (raArb _ (el f1) (t) (u) (l) (l2) ([]) (n) (k) (0) (0) (false) (false) (true) (ms.length) (ms.length*3) GW _).symm ⟨decide_eq_false hi,g1,zh _,h,g2,rfl,⟨rfl,rfl⟩⟩)
   · have h:=zc3 hu fun ms hm he=>hex ⟨ms,hm,he⟩
     rcases zlO l2 with ⟨nu,l3,v0,v1,e2,g2⟩ | g2
     · exact (og (raAx _ (t) (u) (l) (l2) (l3) (n) (k) (0) (nu) (false) (false) (false) GW _).symm ⟨decide_eq_false hi,g1,h,g2,⟨rfl,rfl⟩⟩)
     · exact (og (raAx _ (t) (u) (l) (l2) ([]) (n) (k) (0) (0) (false) (false) (true) GW _).symm ⟨decide_eq_false hi,g1,h,g2,⟨rfl,rfl⟩⟩)
 · exact (og (raAx _ (t) ([]) (l) ([]) ([]) (n) (k) (0) (0) (false) (true) (true) GW _).symm ⟨decide_eq_false hi,g1,yw,zkY,⟨rfl,rfl⟩⟩)
section
variable {s:List UInt8}
theorem ra_B (hs:s.length≤100000)(hno:NoR s){c0 k n:Int}(hc0:0≤c0)(hk:¬ k > 14→c0≤14){t:List UInt8}(x:Nat):∀ (l:List UInt8) (q:Nat) (g:Nat→List UInt8),l.length=x→0<q→(q:Int)≤n→q+l.length≤s.length →
 s=row c0++(row (t.length:Nat)++(t++(row n++((sl g 0 q).flatMap yS++l))))→zds (RAb (es g) t l false n k (q:Int) q (q*1) GW):=by
 induction x using Nat.strongRecOn with
 | _ x ih =>
  intro l q g hlx hq hqn hql hpre
  have hl:l.length≤100000:=by omega
  by_cases hi:(q:Int)<n
  · rcases zmi l hl with ⟨p,l2,e1,g1⟩ | g1
    · have hlen:=congrArg List.length e1
      simp only [List.length_append] at hlen
      have hr:=zL (p.length:Nat)
      have hih:=ih l2.length (by omega) l2 (q+1) (upd g q p) rfl (by omega) (by omega) (by omega) (by
       conv=>lhs; rw [hpre]
       rw [e1,x6,Nat.zero_add,List.flatMap_append,List.flatMap_cons,List.flatMap_nil,List.append_nil]
       have u1:upd g q p q=p:=by unfold upd; rw [if_pos rfl]
       have u2:sl (upd g q p) 0 q=sl g 0 q:=xR q 0 fun t h1 h2=>by unfold upd; rw [if_neg (by omega)]
       rw [u1,u2]
       unfold yS
       simp only [List.append_assoc])
      rw [show (q+1)*1=0+q*1+1 by omega] at hih
      exact (og (raBg _ (es g) (es (upd g q p)) (t) (p) (l) (l2) (n) (k) ((q:Int)) (false) (false) (q) (q*1) (0+q*1+1) GW _).symm ⟨decide_eq_true hi,rfl,g1,rfl,rfl,⟨⟨by omega,fun k hk=>by
       obtain rfl:k=0:=by omega
       exact ⟨_,rfl,rfl⟩⟩,by omega,by omega,by omega,by omega,by
        unfold xz
        rw [Bool.and_eq_true,Nat.ble_eq,Nat.blt_eq]
        constructor <;> omega,by omega⟩,zdT g q p,rfl,xe _,by rw [zoo q (by omega)]; exact hih⟩)
    · exact (og (raBg _ (es g) (es (upd g q [])) (t) ([]) (l) ([]) (n) (k) ((q:Int)) (false) (true) (q) (q*1) (0+q*1+1) GW _).symm ⟨decide_eq_true hi,rfl,g1,rfl,rfl,⟨⟨by omega,fun k hk=>by
       obtain rfl:k=0:=by omega
       exact ⟨_,rfl,rfl⟩⟩,by omega,by omega,by omega,by omega,by
        unfold xz
        rw [Bool.and_eq_true,Nat.ble_eq,Nat.blt_eq]
        constructor <;> omega,by omega⟩,zdT g q [],rfl,xe _,zpM⟩)
  · refine znK hl hi fun h14 ⟨ms,hm,nu,v0,v1,e⟩=>hno c0 t (sl g 0 q) ms nu hc0 (hk h14) hm v0 v1 ?_
    have hn:n=(q:Int):=by omega
    unfold zew
    rw [hpre,e,xO,hn]
theorem zlS (hs:s.length≤100000)(hno:NoR s):zds (zb P 26 [.str s] GW):=by
 have len:∀ (x y:List UInt8),(x++y).length≤100000→y.length≤100000:=fun x y h=>by
  rw [List.length_append] at h
  omega
 rcases zlO s with ⟨c0,l1,c00,c01,e0,g0⟩ | g0
 · have m1:=len _ _ (e0▸hs)
   rcases zmi l1 m1 with ⟨t,l2,e1,gt⟩ | gt
   · have m2:=len _ _ (len _ _ (e1▸m1))
     rcases zlO l2 with ⟨n,l,n0,n1,e2,gn⟩ | gn
     · have m3:=len _ _ (e2▸m2)
       refine (og (ras _ (s) (t) (l1) (l2) (l) (n) (c0) (false) (false) (false) GW _).symm ⟨g0,gt,gn,?_⟩)
       have hk:¬ (IntKind.i64.wrap (if decide ((100:Int)<c0)=true then (100:Int) else c0)) > 14→c0≤14:=by
        rw [zkp c00]
        split <;> omega
       generalize (IntKind.i64.wrap (if decide ((100:Int)<c0)=true then (100:Int) else c0))=k at hk ⊢
       have hpre:s=row c0++(row (t.length:Nat)++(t++(row n++l))):=by rw [e0,e1,e2]
       show zds (RAa t l false n k 0 GW)
       by_cases hi:(0:Int)<n
       · have w1:IntKind.u64.wrap (0+(1:Int))=((1:Nat):Int):=IntWalk.u64_in _ (by omega)
         rcases zmi l m3 with ⟨p,l2,e3,g1⟩ | g1
         · have hlen:=congrArg List.length e3
           have hlen2:=congrArg List.length hpre
           simp only [List.length_append] at hlen hlen2
           have hr:=zL (p.length:Nat)
           have hih:=ra_B hs hno (k:=k) (n:=n) c00 hk (t:=t) l2.length l2 1 (fun _=>p) rfl (by omega) (by omega) (by omega) (by
            rw [hpre,e3]
            show _=row c0++(row (t.length:Nat)++(t++(row n++((yS p++[])++l2))))
            rw [List.append_nil]
            unfold yS
            simp only [List.append_assoc])
           exact (og (raAg _ (es (fun _=>p)) (t) (p) (l) (l2) (n) (k) (0) (false) (false) (1) GW _).symm ⟨decide_eq_true hi,rfl,g1,rfl,zdr p,rfl,xe _,by rw [w1]; exact hih⟩)
         · exact (og (raAg _ (es (fun _=>[])) (t) ([]) (l) ([]) (n) (k) (0) (false) (true) (1) GW _).symm ⟨decide_eq_true hi,rfl,g1,rfl,zdr [],rfl,xe _,zpM⟩)
       · refine zmU m3 hi fun h14 ⟨ms,hm,nu,v0,v1,e⟩=>hno c0 t [] ms nu c00 (hk h14) hm v0 v1 ?_
         have hn:n=0:=by omega
         unfold zew
         rw [hpre,e,hn]
         rfl
     · exact (og (ras _ (s) (t) (l1) (l2) ([]) (0) (c0) (false) (false) (true) GW _).symm ⟨g0,gt,gn,znJ⟩)
   · exact (og (ras _ (s) ([]) (l1) ([]) ([]) (0) (c0) (false) (true) (true) GW _).symm ⟨g0,gt,zkY,znJ⟩)
 · exact (og (ras _ (s) ([]) ([]) ([]) ([]) (0) (0) (true) (true) (true) GW _).symm ⟨g0,zhJ,zkY,znJ⟩)
end
end Go.Proofs.YtdbfpjgnlfejmaaDoor.dg
end
section
set_option maxRecDepth 100000
set_option linter.unusedVariables false
namespace Go.Proofs.YtdbfpjgnlfejmaaDoor.dg
open Go Ev mq
def ROkA (k:Int) (t:List UInt8) (ms:List Dg) (nu:Int) (M:AM):Prop :=
 (ms=[]∧Goal P 0 26 (fun v h=>v=.tup [.agg [.int .i64 k,.str t,.nils 0 0,.nils 0 0,.int .u64 nu],.int .i64 0]∧h=HRn k t nu GW) M) ∨
  (0<ms.length∧∃ f,sl f 0 ms.length=ms∧Goal P 0 26 (fun v h=>v=.tup [.agg [.int .i64 k,.str t,.nils 0 0,.slg 1 0 0 ms.length 0,.int .u64 nu],.int .i64 0]∧h=HRd k t nu f ms.length GW) M)
def ROkB (k:Int) (t:List UInt8) (g:Nat→List UInt8) (q:Nat) (ms:List Dg) (nu:Int) (M:AM):Prop :=
 (ms=[]∧Goal P 0 26 (fun v h=>v=.tup [.agg [.int .i64 k,.str t,.slg 1 0 0 q 0,.nils 0 0,.int .u64 nu],.int .i64 0]∧h=HRp k t nu g q GW) M) ∨
  (0<ms.length∧∃ f,sl f 0 ms.length=ms∧Goal P 0 26 (fun v h=>v=.tup [.agg [.int .i64 k,.str t,.slg 2 0 0 q 0,.slg 1 0 0 ms.length 0,.int .u64 nu],.int .i64 0]∧h=HRb k t nu g q f ms.length GW) M)
theorem ROkA.mono {k:Int}{t:List UInt8}{ms:List Dg}{nu:Int}{M M':AM}(c:∀ Q:AV→AHeap→Prop,Goal P 0 26 Q M→Goal P 0 26 Q M')(h:ROkA k t ms nu M):ROkA k t ms nu M' :=
 h.elim (fun a=>.inl ⟨a.1,c _ a.2⟩) (fun a=>.inr ⟨a.1,a.2.elim fun f b=>⟨f,b.1,c _ b.2⟩⟩)
theorem ROkB.mono {k:Int}{t:List UInt8}{g:Nat→List UInt8}{q:Nat}{ms:List Dg}{nu:Int}{M M':AM}(c:∀ Q:AV→AHeap→Prop,Goal P 0 26 Q M→Goal P 0 26 Q M')(h:ROkB k t g q ms nu M):ROkB k t g q ms nu M' :=
 h.elim (fun a=>.inl ⟨a.1,c _ a.2⟩) (fun a=>.inr ⟨a.1,a.2.elim fun f b=>⟨f,b.1,c _ b.2⟩⟩)
section
variable {k nu:Int} {t:List UInt8} {ms:List Dg}
theorem zmo (v0:0≤nu)(v1:nu≤18446744073709551615):Goal P 1 60 (fun v H=>v=.int .u64 nu∧H=RH [] false GW) (ze P 60 [.ptr 0 0 0] (RH (row nu) false GW)):=by
 have g:=zhf v0 v1 []
 rw [List.append_nil] at g
 exact g
theorem zpk (h1:k≤14)(hm:So ms ms)(v0:0≤nu)(v1:nu≤18446744073709551615)(hl:(row ((zp ms).length:Nat)++(zp ms++row nu)).length≤100000):ROkA k t ms nu (RAa t (row ((zp ms).length:Nat)++(zp ms++row nu)) false 0 k 0 GW):=by
 have gu:=zcq hl
 have gn:=zmo v0 v1
 have hu:(zp ms).length≤100000:=by
  simp only [List.length_append] at hl
  omega
 rcases zcn hu hm rfl with ⟨e,h⟩ | ⟨e,f1,hf,h⟩
 · exact .inl ⟨e,(og (raAno _ (t) (zp ms) ((row ((zp ms).length:Nat)++(zp ms++row nu))) (row nu) ([]) (0) (k) (0) (nu) (false) (false) (false) GW _).symm ⟨decide_eq_false (by omega),gu,h,gn,rfl,neF rfl,decide_eq_false (by omega),⟨rfl,rfl⟩⟩)⟩
 · exact .inr ⟨e,f1,hf,(og (raAro _ (el f1) (t) (zp ms) ((row ((zp ms).length:Nat)++(zp ms++row nu))) (row nu) ([]) (0) (k) (0) (nu) (false) (false) (false) (ms.length) (ms.length*3) GW _).symm ⟨decide_eq_false (by omega),gu,zh _,h,gn,rfl,neF rfl,decide_eq_false (by omega),zh _,⟨rfl,rfl⟩⟩)⟩
theorem zk7 (h1:k≤14)(hm:So ms ms)(v0:0≤nu)(v1:nu≤18446744073709551615){g:Nat→List UInt8}{q:Nat}(hl:(row ((zp ms).length:Nat)++(zp ms++row nu)).length≤100000):ROkB k t g q ms nu (RAb (es g) t (row ((zp ms).length:Nat)++(zp ms++row nu)) false (q:Int) k (q:Int) q (q*1) GW):=by
 have gu:=zcq hl
 have gn:=zmo v0 v1
 have hu:(zp ms).length≤100000:=by
  simp only [List.length_append] at hl
  omega
 rcases zcn hu hm rfl with ⟨e,h⟩ | ⟨e,f1,hf,h⟩
 · exact .inl ⟨e,(og (raBno _ (es g) (t) (zp ms) ((row ((zp ms).length:Nat)++(zp ms++row nu))) (row nu) ([]) (((q:Nat):Int)) (k) ((q:Int)) (nu) (false) (false) (false) (q) (q*1) GW _).symm ⟨decide_eq_false (by omega),gu,h,gn,rfl,neF rfl,decide_eq_false (by omega),xe _,⟨rfl,rfl⟩⟩)⟩
 · exact .inr ⟨e,f1,hf,(og (raBro _ (el f1) (es g) (t) (zp ms) ((row ((zp ms).length:Nat)++(zp ms++row nu))) (row nu) ([]) (((q:Nat):Int)) (k) ((q:Int)) (nu) (false) (false) (false) (q) (ms.length) (q*1) (ms.length*3) GW _).symm ⟨decide_eq_false (by omega),gu,zh _,h,gn,rfl,neF rfl,decide_eq_false (by omega),zh _,xe _,⟨rfl,rfl⟩⟩)⟩
theorem zml (h1:k≤14)(hm:So ms ms)(v0:0≤nu)(v1:nu≤18446744073709551615){ps:List (List UInt8)}(hps:ps.length≤100000):∀ (r:List (List UInt8)) (q:Nat) (g:Nat→List UInt8),0<q→sl g 0 q++r=ps→(r.flatMap yS++(row ((zp ms).length:Nat)++(zp ms++row nu))).length≤100000 →
 ∃ g',sl g' 0 ps.length=ps∧ROkB k t g' ps.length ms nu (RAb (es g) t (r.flatMap yS++(row ((zp ms).length:Nat)++(zp ms++row nu))) false (ps.length:Int) k (q:Int) q (q*1) GW)
 | [],q,g,hq,hp,hl=>by
  rw [List.append_nil] at hp
  have hn:ps.length=q:=by rw [← hp,xO]
  rw [hn]
  exact ⟨g,hp,zk7 h1 hm v0 v1 hl⟩
 | p::r,q,g,hq,hp,hl=>by
  have hn:=congrArg List.length hp
  simp only [List.length_append,List.length_cons,xO] at hn
  have e:(p::r).flatMap yS++(row ((zp ms).length:Nat)++(zp ms++row nu))=row (p.length:Nat)++(p++(r.flatMap yS++(row ((zp ms).length:Nat)++(zp ms++row nu)))):=by
   rw [List.flatMap_cons]
   unfold yS
   simp only [List.append_assoc]
  rw [e] at hl ⊢
  have gp:=zcq hl
  have hl2:=hl
  rw [List.length_append,List.length_append] at hl2
  obtain ⟨g',e1,e2⟩:=zml h1 hm v0 v1 hps r (q+1) (upd g q p) (by omega) (by
   rw [x6,Nat.zero_add]
   have u1:upd g q p q=p:=by unfold upd; rw [if_pos rfl]
   have u2:sl (upd g q p) 0 q=sl g 0 q:=xR q 0 fun t h1 h2=>by unfold upd; rw [if_neg (by omega)]
   rw [u1,u2,← hp,List.append_assoc]
   rfl) (by omega)
  rw [show (q+1)*1=0+q*1+1 by omega] at e2
  exact ⟨g',e1,e2.mono fun Q hQ=>(og (raBg _ (es g) (es (upd g q p)) (t) (p) (row (p.length:Nat)++(p++(r.flatMap yS++(row ((zp ms).length:Nat)++(zp ms++row nu))))) (r.flatMap yS++(row ((zp ms).length:Nat)++(zp ms++row nu))) ((ps.length:Int)) (k) ((q:Int)) (false) (false) (q) (q*1) (0+q*1+1) GW _).symm ⟨decide_eq_true (by omega),rfl,gp,rfl,rfl,⟨⟨by omega,fun k hk=>by
   obtain rfl:k=0:=by omega
   exact ⟨_,rfl,rfl⟩⟩,by omega,by omega,by omega,by omega,by
    unfold xz
    rw [Bool.and_eq_true,Nat.ble_eq,Nat.blt_eq]
    constructor <;> omega,by omega⟩,zdT g q p,rfl,xe _,by rw [zoo q (by omega)]; exact hQ⟩)⟩
theorem zlc {s:List UInt8}(hs:s.length≤100000)(h0:0≤k)(h1:k≤14)(hm:So ms ms)(v0:0≤nu)(v1:nu≤18446744073709551615)(he:zew k t [] ms nu=s):ROkA k t ms nu (zb P 26 [.str s] GW):=by
 have e:zew k t [] ms nu=row k++(row (t.length:Nat)++(t++(row 0++(row ((zp ms).length:Nat)++(zp ms++row nu))))):=rfl
 subst he
 rw [e] at hs ⊢
 have hl:=hs
 rw [List.length_append,List.length_append,List.length_append,List.length_append] at hl
 have w:IntKind.i64.wrap (if decide ((100:Int)<k)=true then (100:Int) else k)=k:=by
  rw [zkp h0,if_pos (by omega)]
 have g0:=zhf (n:=k) h0 (by omega) (row (t.length:Nat)++(t++(row 0++(row ((zp ms).length:Nat)++(zp ms++row nu)))))
 have g1:=zcq (p:=t) (rest:=row 0++(row ((zp ms).length:Nat)++(zp ms++row nu))) (by simp only [List.length_append] at hs ⊢; omega)
 have g2:=zhf (n:=0) (by omega) (by omega) (row ((zp ms).length:Nat)++(zp ms++row nu))
 exact (zpk h1 hm v0 v1 (by omega)).mono fun Q hQ=>(og (ras _ _ (t) (row (t.length:Nat)++(t++(row 0++(row ((zp ms).length:Nat)++(zp ms++row nu))))) (row 0++(row ((zp ms).length:Nat)++(zp ms++row nu))) ((row ((zp ms).length:Nat)++(zp ms++row nu))) (0) (k) (false) (false) (false) GW _).symm ⟨g0,g1,g2,by rw [w]; exact hQ⟩)
theorem zle {s:List UInt8}(hs:s.length≤100000)(h0:0≤k)(h1:k≤14)(hm:So ms ms)(v0:0≤nu)(v1:nu≤18446744073709551615){p:List UInt8}{r:List (List UInt8)}(hr:(p::r).length≤100000)(he:zew k t (p::r) ms nu=s):∃ g,sl g 0 (p::r).length=p::r∧ROkB k t g (p::r).length ms nu (zb P 26 [.str s] GW):=by
 have e:zew k t (p::r) ms nu=row k++(row (t.length:Nat)++(t++(row (((p::r).length:Nat):Int)++((p::r).flatMap yS++(row ((zp ms).length:Nat)++(zp ms++row nu)))))):=by
  unfold zew
  rfl
 subst he
 rw [e] at hs ⊢
 have hl:=hs
 rw [List.length_append,List.length_append,List.length_append,List.length_append] at hl
 have w:IntKind.i64.wrap (if decide ((100:Int)<k)=true then (100:Int) else k)=k:=by
  rw [zkp h0,if_pos (by omega)]
 have g0:=zhf (n:=k) h0 (by omega) (row (t.length:Nat)++(t++(row (((p::r).length:Nat):Int)++((p::r).flatMap yS++(row ((zp ms).length:Nat)++(zp ms++row nu))))))
 have g1:=zcq (p:=t) (rest:=row (((p::r).length:Nat):Int)++((p::r).flatMap yS++(row ((zp ms).length:Nat)++(zp ms++row nu)))) (by simp only [List.length_append] at hs ⊢; omega)
 have g2:=zhf (n:=(((p::r).length:Nat):Int)) (by omega) (by omega) ((p::r).flatMap yS++(row ((zp ms).length:Nat)++(zp ms++row nu)))
 have e2:((p::r).flatMap yS++(row ((zp ms).length:Nat)++(zp ms++row nu)))=row (p.length:Nat)++(p++(r.flatMap yS++(row ((zp ms).length:Nat)++(zp ms++row nu)))):=by
  rw [List.flatMap_cons]
  unfold yS
  simp only [List.append_assoc]
 have hl3:(row (p.length:Nat)++(p++(r.flatMap yS++(row ((zp ms).length:Nat)++(zp ms++row nu))))).length≤100000:=by
  rw [← congrArg List.length e2]
  omega
 have hl2:=hl3
 have gp:=zcq (p:=p) (rest:=r.flatMap yS++(row ((zp ms).length:Nat)++(zp ms++row nu))) hl3
 have w1:IntKind.u64.wrap (0+(1:Int))=((1:Nat):Int):=IntWalk.u64_in _ (by omega)
 rw [List.length_append,List.length_append] at hl2
 obtain ⟨g',d1,d2⟩:=zml (k:=k) (t:=t) h1 hm v0 v1 hr r 1 (fun _=>p) (by omega) rfl (by omega)
 refine ⟨g',d1,d2.mono fun Q hQ=>?_⟩
 have hA:Goal P 0 26 Q (RAa t ((p::r).flatMap yS++(row ((zp ms).length:Nat)++(zp ms++row nu))) false (((p::r).length:Nat):Int) k 0 GW):=by
  rw [e2]
  exact (og (raAg _ (es (fun _=>p)) (t) (p) (row (p.length:Nat)++(p++(r.flatMap yS++(row ((zp ms).length:Nat)++(zp ms++row nu))))) (r.flatMap yS++(row ((zp ms).length:Nat)++(zp ms++row nu))) ((((p::r).length:Nat):Int)) (k) (0) (false) (false) (1) GW _).symm ⟨decide_eq_true (by rw [List.length_cons]; omega),rfl,gp,rfl,zdr p,rfl,xe _,by rw [w1]; exact hQ⟩)
 exact (og (ras _ _ (t) (row (t.length:Nat)++(t++(row (((p::r).length:Nat):Int)++((p::r).flatMap yS++(row ((zp ms).length:Nat)++(zp ms++row nu)))))) (row (((p::r).length:Nat):Int)++((p::r).flatMap yS++(row ((zp ms).length:Nat)++(zp ms++row nu)))) (((p::r).flatMap yS++(row ((zp ms).length:Nat)++(zp ms++row nu)))) ((((p::r).length:Nat):Int)) (k) (false) (false) (false) GW _).symm ⟨g0,g1,g2,by rw [w]; exact hA⟩)
end
end Go.Proofs.YtdbfpjgnlfejmaaDoor.dg
end
section
set_option maxRecDepth 100000
set_option linter.unusedVariables false
namespace Go.Proofs.YtdbfpjgnlfejmaaDoor.dg
open Go Ev mq
def eso (g:Nat→List UInt8) (off c:Nat):AV:=.str (g (c - off))
def gp (g:Nat→List UInt8) (j:Nat):List UInt8:=(g j).take (min (g j).length 60)
def fd (f:Nat→Dg) (j:Nat):Dg:=((f j).1.take (min (f j).1.length 250),(f j).2.1,(f j).2.2)
noncomputable def zpL (f:Nat→Dg) (o2:Nat) (cm:Nat) (n nu:Int) (t:List UInt8) (G:T (T AV)):AHeap:=⟨(.node (.node .leaf (some (.cells (.node (.node (.node .leaf (some (.nils 0 0)) .leaf) (some (.str (t.take (min t.length 500)))) .leaf) (some (.int .i64 n)) (.node (.node .leaf (some (.int .u64 nu)) .leaf) (some (.nils 0 0)) .leaf)) 5 45 0 0 1 0 false .leaf)) .leaf) (some (.ro (.fn fun j=>some (elo f o2 j)) o2 (o2+cm*3))) .leaf),2,G⟩
noncomputable def zpl (f:Nat→Dg) (o2:Nat) (cm:Nat) (f1:Nat→Dg) (kd:Nat) (n nu:Int) (t:List UInt8) (G:T (T AV)):AHeap:=⟨(.node (.node .leaf (some (.cells (.node (.node (.node .leaf (some (.slg 2 0 0 kd 0)) .leaf) (some (.str (t.take (min t.length 500)))) .leaf) (some (.int .i64 n)) (.node (.node .leaf (some (.int .u64 nu)) .leaf) (some (.nils 0 0)) .leaf)) 5 45 0 0 1 0 false .leaf)) .leaf) (some (.ro (.fn fun j=>some (elo f o2 j)) o2 (o2+cm*3))) (.node .leaf (some (.cells (.fn fun c=>some (el f1 c)) (kd*3) 35 0 0 1 0 false .leaf)) .leaf)),3,G⟩
noncomputable def zpx (f:Nat→Dg) (o2:Nat) (cm:Nat) (n nu:Int) (t:List UInt8) (G:T (T AV)):AHeap:=⟨(.node (.node .leaf (some (.cells (.node (.node (.node .leaf (some (.nils 0 0)) .leaf) (some (.str (t.take (min t.length 500)))) .leaf) (some (.int .i64 n)) (.node (.node .leaf (some (.int .u64 nu)) .leaf) (some (.nils 0 0)) .leaf)) 5 45 0 0 1 0 false .leaf)) .leaf) (some (.ro (.fn fun j=>some (elo f o2 j)) o2 (o2+cm*3))) .leaf),2,G⟩
noncomputable def zoz (f:Nat→Dg) (o2:Nat) (cm:Nat) (f1:Nat→Dg) (kd:Nat) (n nu:Int) (t:List UInt8) (G:T (T AV)):AHeap:=⟨(.node (.node .leaf (some (.cells (.node (.node (.node .leaf (some (.slg 2 0 0 kd 0)) .leaf) (some (.str (t.take (min t.length 500)))) .leaf) (some (.int .i64 n)) (.node (.node .leaf (some (.int .u64 nu)) .leaf) (some (.nils 0 0)) .leaf)) 5 45 0 0 1 0 false .leaf)) .leaf) (some (.ro (.fn fun j=>some (elo f o2 j)) o2 (o2+cm*3))) (.node .leaf (some (.cells (.fn fun c=>some (el f1 c)) (kd*3) 35 0 0 1 0 false .leaf)) .leaf)),3,G⟩
noncomputable def zpj (g:Nat→List UInt8) (o1:Nat) (cq:Nat) (f:Nat→Dg) (o2:Nat) (cm:Nat) (n nu:Int) (t:List UInt8) (G:T (T AV)):AHeap:=⟨(.node (.node .leaf (some (.ro (.fn fun j=>some (elo f o2 j)) o2 (o2+cm*3))) .leaf) (some (.ro (.fn fun j=>some (eso g o1 j)) o1 (o1+cq*1))) (.node .leaf (some (.cells (.node (.node (.node .leaf (some (.nils 0 0)) .leaf) (some (.str (t.take (min t.length 500)))) .leaf) (some (.int .i64 n)) (.node (.node .leaf (some (.int .u64 nu)) .leaf) (some (.nils 0 0)) .leaf)) 5 45 0 0 1 0 false .leaf)) .leaf)),3,G⟩
noncomputable def zoy (g:Nat→List UInt8) (o1:Nat) (cq:Nat) (f:Nat→Dg) (o2:Nat) (cm:Nat) (f1:Nat→Dg) (kd:Nat) (n nu:Int) (t:List UInt8) (G:T (T AV)):AHeap:=⟨(.node (.node (.node .leaf (some (.cells (.fn fun c=>some (el f1 c)) (kd*3) 35 0 0 1 0 false .leaf)) .leaf) (some (.ro (.fn fun j=>some (elo f o2 j)) o2 (o2+cm*3))) .leaf) (some (.ro (.fn fun j=>some (eso g o1 j)) o1 (o1+cq*1))) (.node .leaf (some (.cells (.node (.node (.node .leaf (some (.slg 3 0 0 kd 0)) .leaf) (some (.str (t.take (min t.length 500)))) .leaf) (some (.int .i64 n)) (.node (.node .leaf (some (.int .u64 nu)) .leaf) (some (.nils 0 0)) .leaf)) 5 45 0 0 1 0 false .leaf)) .leaf)),4,G⟩
noncomputable def zoQ (g:Nat→List UInt8) (o1:Nat) (cq:Nat) (f:Nat→Dg) (o2:Nat) (cm:Nat) (g1:Nat→List UInt8) (k:Nat) (n nu:Int) (t:List UInt8) (G:T (T AV)):AHeap:=⟨(.node (.node (.node .leaf (some (.cells (.fn fun c=>some (es g1 c)) (k*1) 9 0 0 1 0 false .leaf)) .leaf) (some (.ro (.fn fun j=>some (elo f o2 j)) o2 (o2+cm*3))) .leaf) (some (.ro (.fn fun j=>some (eso g o1 j)) o1 (o1+cq*1))) (.node .leaf (some (.cells (.node (.node (.node .leaf (some (.nils 0 0)) .leaf) (some (.str (t.take (min t.length 500)))) .leaf) (some (.int .i64 n)) (.node (.node .leaf (some (.int .u64 nu)) .leaf) (some (.slg 3 0 0 k 0)) .leaf)) 5 45 0 0 1 0 false .leaf)) .leaf)),4,G⟩
noncomputable def zoR (g:Nat→List UInt8) (o1:Nat) (cq:Nat) (f:Nat→Dg) (o2:Nat) (cm:Nat) (g1:Nat→List UInt8) (k:Nat) (f1:Nat→Dg) (kd:Nat) (n nu:Int) (t:List UInt8) (G:T (T AV)):AHeap:=⟨(.node (.node (.node .leaf (some (.cells (.fn fun c=>some (el f1 c)) (kd*3) 35 0 0 1 0 false .leaf)) .leaf) (some (.ro (.fn fun j=>some (elo f o2 j)) o2 (o2+cm*3))) .leaf) (some (.ro (.fn fun j=>some (eso g o1 j)) o1 (o1+cq*1))) (.node (.node .leaf (some (.cells (.fn fun c=>some (es g1 c)) (k*1) 9 0 0 1 0 false .leaf)) .leaf) (some (.cells (.node (.node (.node .leaf (some (.slg 3 0 0 kd 0)) .leaf) (some (.str (t.take (min t.length 500)))) .leaf) (some (.int .i64 n)) (.node (.node .leaf (some (.int .u64 nu)) .leaf) (some (.slg 4 0 0 k 0)) .leaf)) 5 45 0 0 1 0 false .leaf)) .leaf)),5,G⟩
noncomputable def PAs (pi:Nat→AV) (t:List UInt8) (t':List UInt8) (n:Int) (nu:Int) (i:Int) (q:Nat) (cq:Nat) (zq:Nat) (oq:Nat) (lq:Nat) (G:T (T AV)):AM:=⟨⟨29,79,(.node (.node (.node .leaf (some (.ptr 3 0 0)) .leaf) (some (.ptr 1 0 0)) .leaf) none (.node (.node .leaf (some (.int .i64 i)) .leaf) (some (.ptr 2 0 0)) .leaf)),
 [.code (cd P (29:Nat) [(1:Nat),(1:Nat),(0:Nat),(1:Nat),(0:Nat),(0:Nat)]),.inLoop (cd P (29:Nat) [(1:Nat),(1:Nat),(0:Nat),(1:Nat),(0:Nat),(0:Nat)]),.inBlock 0,.code (cd P (29:Nat) [(1:Nat),(1:Nat),(1:Nat)])],[],.run,CallKind.normal,none⟩,
 [],
 ⟨(.node (.node (.node .leaf (some (.cells (.node (.node (.node .leaf (some (.nils 0 0)) .leaf) (some (.str t')) .leaf) (some (.int .i64 n)) (.node (.node .leaf (some (.int .u64 nu)) .leaf) (some (.nils 0 0)) .leaf)) 5 45 0 0 1 0 false .leaf)) .leaf) (some (.cells (.node (.node (.node .leaf (some (.sle)) .leaf) (some (.str t)) .leaf) (some (.int .i64 n)) (.node (.node .leaf (some (.int .u64 nu)) .leaf) (some (.slc 0 0 oq q cq)) .leaf)) 5 45 0 0 1 0 false .leaf)) .leaf) (some (.ro (.fn fun j=>some (pi j)) lq zq)) (.node .leaf (some (.cells (.node (.node (.node .leaf (some (.nils 0 0)) .leaf) (some (.str [])) .leaf) (some (.int .i64 0)) (.node (.node .leaf (some (.int .u64 0)) .leaf) (some (.nils 0 0)) .leaf)) 5 45 0 0 1 0 false .leaf)) .leaf)),4,G⟩⟩
theorem strs (R:AV→AHeap→Prop)(pi:Nat→AV)(t t':List UInt8)(n nu:Int)(q cq zq oq lq:Nat)(G:T (T AV))(K:AM→Prop):Obl P 29 (fun v h=>R v h) 1 K [.run 15,.op,.slot 15 (.str t'),.run 3,.step,.run 9,.can 1 [0,1,2,3] [1,2,3,4] []] ((ze P 29 [(.agg [.int .i64 n,.str t,.slc 0 0 oq q cq,.sle,.int .u64 nu])] ⟨(.node .leaf (some (.ro (.fn fun j=>some (pi j)) lq zq)) .leaf),1,G⟩))=((((0:Int)≤if decide ((500:Int)<(↑t.length:Int))=true then (500:Int) else (↑t.length:Int))∧(if decide ((500:Int)<(↑t.length:Int))=true then (500:Int) else (↑t.length:Int))≤(↑t.length:Int))∧(AV.str (List.take ((if decide ((500:Int)<(↑t.length:Int))=true then (500:Int) else (↑t.length:Int)).toNat - 0) (List.drop 0 t))=AV.str t')∧(some (AV.int .u64 nu)=some (AV.int .u64 nu))∧((y6 P (ev (T.set (some (AV.ptr ({ objs:=(T.leaf.node (some (AObj.cells (((T.leaf.node (some AV.sle) T.leaf).node (some (AV.str t)) T.leaf).node (some (AV.int .i64 n)) ((T.leaf.node (some (AV.int .u64 nu)) T.leaf).node (some (AV.slc 0 0 oq q cq)) T.leaf)) 5 45 0 0 1 0 false T.leaf)) T.leaf).node (some (AObj.ro (T.fn fun j=>some (pi j)) lq zq)) (T.leaf.node (some (AObj.cells (((T.leaf.node (some (AV.nils 0 0)) T.leaf).node (some (AV.str [])) T.leaf).node (some (AV.int .i64 (Int.ofNat 0))) ((T.leaf.node (some (AV.int .u64 (Int.ofNat 0))) T.leaf).node (some (AV.nils 0 0)) T.leaf)) 5 45 0 0 1 0 false T.leaf)) T.leaf),next:=3,glob:=G }:AHeap).next 0 0)) (((((T.leaf.node (some (AV.str t')) T.leaf).node (some (AV.ptr 1 0 0)) T.leaf).node none (T.leaf.node (some (AV.ptr 1 0 1)) T.leaf)).node (some (AV.ptr 1 0 0)) (((T.leaf.node (some (AV.int .u64 nu)) T.leaf).node (some (AV.ptr 1 0 1)) T.leaf).node none (T.leaf.node (some (AV.int .i64 (↑t.length:Int))) T.leaf))).node (some (AV.agg [AV.int .i64 n,AV.str t,AV.slc 0 0 oq q cq,AV.sle,AV.int .u64 nu])) ((((T.leaf.node (some (AV.ptr 1 0 4)) T.leaf).node (some (AV.int .i64 n)) T.leaf).node none (T.leaf.node (some (AV.str t)) T.leaf)).node (some (AV.ptr 2 0 0)) (((T.leaf.node (some (AV.agg [AV.int .i64 n,AV.str t',AV.nils 0 0,AV.nils 0 0,AV.int .u64 nu])) T.leaf).node (some (AV.str t)) T.leaf).node none (T.leaf.node (some (AV.int .i64 (if decide ((500:Int)<(↑t.length:Int))=true then (500:Int) else (↑t.length:Int)))) T.leaf)))) 3)) (Ev.newCells ({ objs:=(T.leaf.node (some (AObj.cells (((T.leaf.node (some AV.sle) T.leaf).node (some (AV.str t)) T.leaf).node (some (AV.int .i64 n)) ((T.leaf.node (some (AV.int .u64 nu)) T.leaf).node (some (AV.slc 0 0 oq q cq)) T.leaf)) 5 45 0 0 1 0 false T.leaf)) T.leaf).node (some (AObj.ro (T.fn fun j=>some (pi j)) lq zq)) (T.leaf.node (some (AObj.cells (((T.leaf.node (some (AV.nils 0 0)) T.leaf).node (some (AV.str [])) T.leaf).node (some (AV.int .i64 (Int.ofNat 0))) ((T.leaf.node (some (AV.int .u64 (Int.ofNat 0))) T.leaf).node (some (AV.nils 0 0)) T.leaf)) 5 45 0 0 1 0 false T.leaf)) T.leaf),next:=3,glob:=G }:AHeap) 45 (AV.agg [AV.int .u64 (0:Int),AV.nils 0 0,AV.nils 0 0,AV.str ([]:List UInt8),AV.int .i64 (0:Int)].reverse).cells false) (Op.slice 9 (Operand.tmp 10) none (some (Operand.tmp 14)) none))=some (AV.str t'))∧(some (AV.int .i64 (if decide ((500:Int)<(↑t.length:Int))=true then (500:Int) else (↑t.length:Int)))=some (AV.int .i64 (if decide ((500:Int)<(↑t.length:Int))=true then (500:Int) else (↑t.length:Int))))∧(some (AV.int .i64 (↑t.length:Int))=some (AV.int .i64 (↑t.length:Int)))∧(some (AV.str t)=some (AV.str t))∧(some (AV.str t)=some (AV.str t))∧(some (AV.int .i64 n)=some (AV.int .i64 n))∧K (PAs pi t t' n nu (Int.ofNat 0) q cq zq oq lq G)):=by kernel_rfl
section
variable {n nu:Int} {t:List UInt8} {g:Nat→List UInt8} {q cq o1:Nat} {f:Nat→Dg} {m cm o2:Nat}
def RDn0 (n nu:Int) (t:List UInt8) (f:Nat→Dg) (m cm o2:Nat) (M:AM):Prop :=
 (m=0∧Goal P 1 29 (fun v h=>v=.agg [.int .i64 n,.str (t.take (min t.length 500)),.nils 0 0,.nils 0 0,.int .u64 nu]∧h=zpL (f) (o2) (cm) n nu t GW) M) ∨
  (0<m∧∃ f1,sl f1 0 (min m 20)=sl (fd f) 0 (min m 20)∧Goal P 1 29 (fun v h=>v=.agg [.int .i64 n,.str (t.take (min t.length 500)),.nils 0 0,.slg 2 0 0 (min m 20) 0,.int .u64 nu]∧h=zpl (f) (o2) (cm) (f1) (min m 20) n nu t GW) M)
theorem RDn0.mono {n nu:Int}{t:List UInt8}{f:Nat→Dg}{m cm o2:Nat}{M M':AM}(h:∀ Q:AV→AHeap→Prop,Goal P 1 29 Q M→Goal P 1 29 Q M')(a:RDn0 n nu t f m cm o2 M):RDn0 n nu t f m cm o2 M':=by
 rcases a with ⟨a1,a2⟩ | ⟨a1,f1,a2,a3⟩
 · exact .inl ⟨a1,h _ a2⟩
 · exact .inr ⟨a1,f1,a2,h _ a3⟩
def RDs0 (n nu:Int) (t:List UInt8) (f:Nat→Dg) (m cm o2:Nat) (M:AM):Prop :=
 (m=0∧Goal P 1 29 (fun v h=>v=.agg [.int .i64 n,.str (t.take (min t.length 500)),.nils 0 0,.nils 0 0,.int .u64 nu]∧h=zpx (f) (o2) (cm) n nu t GW) M) ∨
  (0<m∧∃ f1,sl f1 0 (min m 20)=sl (fd f) 0 (min m 20)∧Goal P 1 29 (fun v h=>v=.agg [.int .i64 n,.str (t.take (min t.length 500)),.nils 0 0,.slg 2 0 0 (min m 20) 0,.int .u64 nu]∧h=zoz (f) (o2) (cm) (f1) (min m 20) n nu t GW) M)
theorem RDs0.mono {n nu:Int}{t:List UInt8}{f:Nat→Dg}{m cm o2:Nat}{M M':AM}(h:∀ Q:AV→AHeap→Prop,Goal P 1 29 Q M→Goal P 1 29 Q M')(a:RDs0 n nu t f m cm o2 M):RDs0 n nu t f m cm o2 M':=by
 rcases a with ⟨a1,a2⟩ | ⟨a1,f1,a2,a3⟩
 · exact .inl ⟨a1,h _ a2⟩
 · exact .inr ⟨a1,f1,a2,h _ a3⟩
def RDr0 (n nu:Int) (t:List UInt8) (g:Nat→List UInt8) (q cq o1:Nat) (f:Nat→Dg) (m cm o2:Nat) (M:AM):Prop :=
 (m=0∧Goal P 2 29 (fun v h=>v=.agg [.int .i64 n,.str (t.take (min t.length 500)),.nils 0 0,.nils 0 0,.int .u64 nu]∧h=zpj (g) (o1) (cq) (f) (o2) (cm) n nu t GW) M) ∨
  (0<m∧∃ f1,sl f1 0 (min m 20)=sl (fd f) 0 (min m 20)∧Goal P 2 29 (fun v h=>v=.agg [.int .i64 n,.str (t.take (min t.length 500)),.nils 0 0,.slg 3 0 0 (min m 20) 0,.int .u64 nu]∧h=zoy (g) (o1) (cq) (f) (o2) (cm) (f1) (min m 20) n nu t GW) M)
theorem RDr0.mono {n nu:Int}{t:List UInt8}{g:Nat→List UInt8}{q cq o1:Nat}{f:Nat→Dg}{m cm o2:Nat}{M M':AM}(h:∀ Q:AV→AHeap→Prop,Goal P 2 29 Q M→Goal P 2 29 Q M')(a:RDr0 n nu t g q cq o1 f m cm o2 M):RDr0 n nu t g q cq o1 f m cm o2 M':=by
 rcases a with ⟨a1,a2⟩ | ⟨a1,f1,a2,a3⟩
 · exact .inl ⟨a1,h _ a2⟩
 · exact .inr ⟨a1,f1,a2,h _ a3⟩
def RDr1 (n nu:Int) (t:List UInt8) (g:Nat→List UInt8) (q cq o1:Nat) (f:Nat→Dg) (m cm o2:Nat) (g1:Nat→List UInt8) (k:Nat) (M:AM):Prop :=
 (m=0∧Goal P 2 29 (fun v h=>v=.agg [.int .i64 n,.str (t.take (min t.length 500)),.slg 3 0 0 (k) 0,.nils 0 0,.int .u64 nu]∧h=zoQ (g) (o1) (cq) (f) (o2) (cm) (g1) (k) n nu t GW) M) ∨
  (0<m∧∃ f1,sl f1 0 (min m 20)=sl (fd f) 0 (min m 20)∧Goal P 2 29 (fun v h=>v=.agg [.int .i64 n,.str (t.take (min t.length 500)),.slg 4 0 0 (k) 0,.slg 3 0 0 (min m 20) 0,.int .u64 nu]∧h=zoR (g) (o1) (cq) (f) (o2) (cm) (g1) (k) (f1) (min m 20) n nu t GW) M)
theorem RDr1.mono {n nu:Int}{t:List UInt8}{g:Nat→List UInt8}{q cq o1:Nat}{f:Nat→Dg}{m cm o2:Nat}{g1:Nat→List UInt8}{k:Nat}{M M':AM}(h:∀ Q:AV→AHeap→Prop,Goal P 2 29 Q M→Goal P 2 29 Q M')(a:RDr1 n nu t g q cq o1 f m cm o2 g1 k M):RDr1 n nu t g q cq o1 f m cm o2 g1 k M':=by
 rcases a with ⟨a1,a2⟩ | ⟨a1,f1,a2,a3⟩
 · exact .inl ⟨a1,h _ a2⟩
 · exact .inr ⟨a1,f1,a2,h _ a3⟩
end
end Go.Proofs.YtdbfpjgnlfejmaaDoor.dg
end
section
set_option maxRecDepth 100000
set_option linter.unusedVariables false
namespace Go.Proofs.YtdbfpjgnlfejmaaDoor.dg
open Go Ev mq
theorem zkL (g:Nat→List UInt8)(i:Nat):es g (0+((i:Nat):Int).toNat*1)=AV.str (g i):=by
 rw [Int.toNat_natCast,Nat.zero_add,Nat.mul_one]
 rfl
end Go.Proofs.YtdbfpjgnlfejmaaDoor.dg
end
section
set_option maxRecDepth 100000
set_option linter.unusedVariables false
namespace Go.Proofs.YtdbfpjgnlfejmaaDoor.dg
open Go Ev mq
noncomputable def O1 (w:List UInt8) (G:T (T AV)):AM:=⟨⟨10,95,(.node .leaf (some (.str w)) .leaf),
 [.ops (rg P 10 [1,1,1,1,0]).toList (rg P 10 [1,1,1,1,0]).toList,.code (cd P (10:Nat) [(1:Nat),(1:Nat),(1:Nat),(1:Nat),(1:Nat)])],[],.run,CallKind.normal,none⟩,
 [],
 ⟨.leaf,0,G⟩⟩
noncomputable def OL2 (w:List UInt8) (i:Int) (G:T (T AV)):AM:=⟨⟨10,95,(.node (.node (.node .leaf none (.node .leaf (some (.int .i64 i)) .leaf)) none .leaf) (some (.str w)) .leaf),
 [.code (cd P (10:Nat) [(1:Nat),(1:Nat),(1:Nat),(1:Nat),(1:Nat),(0:Nat),(1:Nat),(0:Nat),(1:Nat),(1:Nat),(0:Nat),(0:Nat)]),.inLoop (cd P (10:Nat) [(1:Nat),(1:Nat),(1:Nat),(1:Nat),(1:Nat),(0:Nat),(1:Nat),(0:Nat),(1:Nat),(1:Nat),(0:Nat),(0:Nat)]),.inBlock 2,.code (cd P (10:Nat) [(1:Nat),(1:Nat),(1:Nat),(1:Nat),(1:Nat),(1:Nat)])],[],.run,CallKind.normal,none⟩,
 [],
 ⟨.leaf,0,G⟩⟩
theorem ob (R:AV→Prop)(s w:List UInt8)(G:T (T AV))(K:AM→Prop):Obl P 10 (fun v _=>R v) 0 K [.run 10,.op,.slot 18 (.str w),.run 6,.callh [] [0] (.tup [.agg [.int .i64 0,.str [],.str [],.str []],.int .i64 4]) ⟨(.node .leaf (some (.cells (.node (.node (.node .leaf (some (.str [])) .leaf) (some (.str [])) .leaf) (some (.int .i64 0)) (.node .leaf (some (.str [])) .leaf)) 4 39 0 0 1 0 false .leaf)) .leaf),1,G⟩,.run 28,.can 0 [] [0] []] ((zb P 10 [.str s] G))=((((0:Int)≤if decide ((1000:Int)<(↑s.length:Int))=true then (1000:Int) else (↑s.length:Int))∧(if decide ((1000:Int)<(↑s.length:Int))=true then (1000:Int) else (↑s.length:Int))≤(↑s.length:Int))∧(AV.str (List.take ((if decide ((1000:Int)<(↑s.length:Int))=true then (1000:Int) else (↑s.length:Int)).toNat - 0) (List.drop 0 s))=AV.str w)∧(Goal P 0 23 (fun v h=>v=AV.tup [AV.agg [AV.int .i64 (0:Int),AV.str [],AV.str [],AV.str []],AV.int .i64 (4:Int)]∧h={ objs:=T.leaf.node (some (AObj.cells (((T.leaf.node (some (AV.str [])) T.leaf).node (some (AV.str [])) T.leaf).node (some (AV.int .i64 (0:Int))) (T.leaf.node (some (AV.str [])) T.leaf)) 4 39 0 0 1 0 false T.leaf)) T.leaf,next:=1,glob:=G }) (zb P 23 [.str w] G))∧K (O1 w G)):=by kernel_rfl
theorem of (R:AV→Prop)(w:List UInt8)(i:Int)(G:T (T AV))(_K:AM→Prop):Obl P 10 (fun v _=>R v) 0 _K [.run 8,.know 74 false,.run 5,.callv [] (.bool true),.run 3,.done] ((OL2 w i G))=((decide (i<(↑w.length:Int))=false)∧(Goal P 0 28 (fun v _=>v=AV.bool true) (zb P 28 [] G))∧(R (.bool true))):=by kernel_rfl
theorem zjH:∀ l:List (List UInt8),l.length≤(l.flatMap yS).length
 | []=>by simp
 | a::r=>by
  have ih:=zjH r
  have h:(yS a).length=(row (a.length:Nat)).length+a.length:=List.length_append
  have:=zL (a.length:Nat)
  simp only [List.flatMap_cons,List.length_append,List.length_cons,h]
  omega
theorem wi:Goal P 0 28 (fun x _=>x=AV.bool true) (zb P 28 [] GW):=Goal.ofRun mix (n:=20000) (by kernel_rfl) fun _=>rfl
end Go.Proofs.YtdbfpjgnlfejmaaDoor.dg
end
section
set_option maxRecDepth 100000
set_option linter.unusedVariables false
namespace Go.Proofs.YtdbfpjgnlfejmaaDoor.dg
open Go Ev mq
noncomputable def BM (s:List UInt8) (G:T (T AV)):AM:=⟨⟨5,57,(.node (.node .leaf (some (.str s)) .leaf) none (.node (.node (.node .leaf none (.node .leaf (some (.bool false)) .leaf)) none (.node .leaf none (.node .leaf (some (.bool true)) .leaf))) none .leaf)),
 [.ops (rg P 5 [1,1,1,1,0,0]).toList ((rg P 5 [1,1,1,1,0,0]).toList.drop 7),.code (cd P (5:Nat) [(1:Nat),(1:Nat),(1:Nat),(1:Nat),(0:Nat),(1:Nat)]),.code (cd P (5:Nat) [(1:Nat),(1:Nat),(1:Nat),(1:Nat),(1:Nat)])],[],.run,CallKind.normal,none⟩,
 [],
 ⟨.leaf,0,G⟩⟩
theorem bs (R:AV→Prop)(s t:List UInt8)(G:T (T AV))(K:AM→Prop):Obl P 5 (fun v _=>R v) 0 K [.run 8,.callv [] (.bool true),.run 17,.callh [] [0] (.str t) ⟨.leaf,0,G⟩,.run 1,.callh [] [0] (.tup [.nils 0 0,.int .i64 0]) ⟨.leaf,0,G⟩,.run 15,.callh [] [0] (.nils 0 0) ⟨.leaf,0,G⟩,.run 39,.can 0 [] [1,24,28] []] ((zb P 5 [.sle,.str s] G))=((Goal P 0 18 (fun v _=>v=AV.bool true) (zb P 18 [] G))∧(Goal P 0 14 (fun v h=>v=AV.str t∧h={ objs:=T.leaf,next:=0,glob:=G }) (zb P 14 [.sle] G))∧(Goal P 0 19 (fun v h=>v=AV.tup [AV.nils 0 0,AV.int .i64 (0:Int)]∧h={ objs:=T.leaf,next:=0,glob:=G }) (zb P 19 [.str t] G))∧(Goal P 0 12 (fun v h=>v=AV.nils 0 0∧h={ objs:=T.leaf,next:=0,glob:=G }) (zb P 12 [.sle] G))∧K (BM s G)):=by kernel_rfl
end Go.Proofs.YtdbfpjgnlfejmaaDoor.dg
end
section
set_option maxRecDepth 100000
set_option linter.unusedVariables false
namespace Go.Proofs.YtdbfpjgnlfejmaaDoor.dg
open Go Ev mq
theorem zhI (op:Bool)(k k2:Int)(a b c d e f:List UInt8)(t:Bool)(h:AHeap):vd P h (bif op then .eql else .neq) 39 t (.agg [.int .i64 k,.str a,.str b,.str c]) (.agg [.int .i64 k2,.str d,.str e,.str f])=some (.bool (op==decide ((k,a,b,c)=(k2,d,e,f)))):=by
 have key:∀ op:BinOp,op=.eql∨op=.neq→vd P h op 39 t (.agg [.int .i64 k,.str a,.str b,.str c]) (.agg [.int .i64 k2,.str d,.str e,.str f])
  = (match (match some (k==k2) with
   | some true=>(match some (a==d) with
    | some true=>(match some (b==e) with
     | some true=>(match some (c==f) with
      | some true=>some true
      | some false=>some false
      | none=>none)
     | some false=>some false
     | none=>none)
    | some false=>some false
    | none=>none)
   | some false=>some false
   | none=>none) with
   | none=>none
   | some x=>some (.bool (match op with | .eql=>x | _=>!x))):=by
  rintro op (rfl | rfl) <;> kernel_rfl
 rw [key _ (by cases op <;> simp)]
 have e3:decide ((k,a,b,c)=(k2,d,e,f))=((k==k2)&&((a==d)&&((b==e)&&(c==f)))):=by
  rw [Bool.eq_iff_iff]; simp
 rw [e3]
 generalize (k==k2)=b1
 generalize (a==d)=b2
 generalize (b==e)=b3
 generalize (c==f)=b4
 cases op <;> cases b1 <;> cases b2 <;> cases b3 <;> cases b4 <;> rfl
theorem znb {α:Type}{f g:Nat→α}{n:Nat}(h:sl f 0 n=sl g 0 n)(i:Nat)(hi:i<n):f i=g i:=by
 have:=congrArg (fun l=>l[i]?) h
 simp only [wB _ _ _ _ hi,Nat.zero_add,Option.some.injEq] at this
 exact this
section
variable {n nu:Int} {t:List UInt8} {gx g:Nat→List UInt8} {fx f:Nat→Dg} {k ks zx z zdx zd:Nat}
end
section
variable {n nu:Int} {t:List UInt8}
end
section
variable {n nu:Int} {t:List UInt8} {g:Nat→List UInt8} {q cq o1:Nat} {f':Nat→Dg} {m cm o2:Nat} {k1 k2:Int} {a b c d e f:List UInt8}
end
end Go.Proofs.YtdbfpjgnlfejmaaDoor.dg
end
section
set_option maxRecDepth 100000
set_option linter.unusedVariables false
namespace Go.Proofs.YtdbfpjgnlfejmaaDoor.dg
open Go Ev mq
noncomputable def PSb (pcx:Nat→AV) (pc:Nat→AV) (cellx:Nat→AV) (cell:Nat→AV) (t:List UInt8) (n:Int) (nu:Int) (i:Int) (k:Nat) (ks:Nat) (zx:Nat) (z:Nat) (zdx:Nat) (zd:Nat) (G:T (T AV)):AM:=⟨⟨27,80,(.node (.node (.node .leaf (some (.ptr 5 0 0)) .leaf) none (.node .leaf (some (.int .i64 i)) .leaf)) none (.node .leaf (some (.ptr 4 0 0)) .leaf)),
 [.code (cd P (27:Nat) [(1:Nat),(1:Nat),(0:Nat),(1:Nat),(0:Nat),(0:Nat)]),.inLoop (cd P (27:Nat) [(1:Nat),(1:Nat),(0:Nat),(1:Nat),(0:Nat),(0:Nat)]),.inBlock 0,.code (cd P (27:Nat) [(1:Nat),(1:Nat),(1:Nat)])],[],.run,CallKind.normal,none⟩,
 [],
 ⟨(.node (.node (.node .leaf (some (.cells (.fn fun c=>some (cell c)) zd 35 0 0 1 0 false .leaf)) .leaf) (some (.cells (.fn fun c=>some (cellx c)) zdx 35 0 0 1 0 false .leaf)) (.node .leaf (some (.cells (.node (.node (.node .leaf (some (.slg 3 0 0 ks 0)) .leaf) (some (.str t)) .leaf) (some (.int .i64 n)) (.node (.node .leaf (some (.int .u64 nu)) .leaf) (some (.slg 2 0 0 k 0)) .leaf)) 5 45 0 0 1 0 false .leaf)) .leaf)) (some (.cells (.fn fun c=>some (pcx c)) zx 9 0 0 1 0 false .leaf)) (.node (.node .leaf (some (.cells (.node (.node (.node .leaf (some (.slg 1 0 0 ks 0)) .leaf) (some (.str t)) .leaf) (some (.int .i64 n)) (.node (.node .leaf (some (.int .u64 nu)) .leaf) (some (.slg 0 0 0 k 0)) .leaf)) 5 45 0 0 1 0 false .leaf)) .leaf) (some (.cells (.fn fun c=>some (pc c)) z 9 0 0 1 0 false .leaf)) .leaf)),6,G⟩⟩
noncomputable def PSp (pcx:Nat→AV) (pc:Nat→AV) (t:List UInt8) (n:Int) (nu:Int) (i:Int) (k:Nat) (zx:Nat) (z:Nat) (G:T (T AV)):AM:=⟨⟨27,80,(.node (.node (.node .leaf (some (.ptr 3 0 0)) .leaf) none (.node .leaf (some (.int .i64 i)) .leaf)) none (.node .leaf (some (.ptr 2 0 0)) .leaf)),
 [.code (cd P (27:Nat) [(1:Nat),(1:Nat),(0:Nat),(1:Nat),(0:Nat),(0:Nat)]),.inLoop (cd P (27:Nat) [(1:Nat),(1:Nat),(0:Nat),(1:Nat),(0:Nat),(0:Nat)]),.inBlock 0,.code (cd P (27:Nat) [(1:Nat),(1:Nat),(1:Nat)])],[],.run,CallKind.normal,none⟩,
 [],
 ⟨(.node (.node (.node .leaf (some (.cells (.node (.node (.node .leaf (some (.nils 0 0)) .leaf) (some (.str t)) .leaf) (some (.int .i64 n)) (.node (.node .leaf (some (.int .u64 nu)) .leaf) (some (.slg 1 0 0 k 0)) .leaf)) 5 45 0 0 1 0 false .leaf)) .leaf) (some (.cells (.fn fun c=>some (pc c)) z 9 0 0 1 0 false .leaf)) .leaf) (some (.cells (.fn fun c=>some (pcx c)) zx 9 0 0 1 0 false .leaf)) (.node .leaf (some (.cells (.node (.node (.node .leaf (some (.nils 0 0)) .leaf) (some (.str t)) .leaf) (some (.int .i64 n)) (.node (.node .leaf (some (.int .u64 nu)) .leaf) (some (.slg 0 0 0 k 0)) .leaf)) 5 45 0 0 1 0 false .leaf)) .leaf)),4,G⟩⟩
noncomputable def DSd (cellx:Nat→AV) (cell:Nat→AV) (t:List UInt8) (n:Int) (nu:Int) (i:Int) (ks:Nat) (zdx:Nat) (zd:Nat) (G:T (T AV)):AM:=⟨⟨27,80,(.node (.node (.node .leaf (some (.ptr 3 0 0)) .leaf) none .leaf) none (.node .leaf (some (.ptr 2 0 0)) (.node .leaf (some (.int .i64 i)) .leaf))),
 [.code (cd P (27:Nat) [(1:Nat),(1:Nat),(1:Nat),(0:Nat),(1:Nat),(0:Nat),(0:Nat)]),.inLoop (cd P (27:Nat) [(1:Nat),(1:Nat),(1:Nat),(0:Nat),(1:Nat),(0:Nat),(0:Nat)]),.inBlock 2,.code (cd P (27:Nat) [(1:Nat),(1:Nat),(1:Nat),(1:Nat)])],[],.run,CallKind.normal,none⟩,
 [],
 ⟨(.node (.node (.node .leaf (some (.cells (.node (.node (.node .leaf (some (.slg 1 0 0 ks 0)) .leaf) (some (.str t)) .leaf) (some (.int .i64 n)) (.node (.node .leaf (some (.int .u64 nu)) .leaf) (some (.nils 0 0)) .leaf)) 5 45 0 0 1 0 false .leaf)) .leaf) (some (.cells (.fn fun c=>some (cell c)) zd 35 0 0 1 0 false .leaf)) .leaf) (some (.cells (.fn fun c=>some (cellx c)) zdx 35 0 0 1 0 false .leaf)) (.node .leaf (some (.cells (.node (.node (.node .leaf (some (.slg 0 0 0 ks 0)) .leaf) (some (.str t)) .leaf) (some (.int .i64 n)) (.node (.node .leaf (some (.int .u64 nu)) .leaf) (some (.nils 0 0)) .leaf)) 5 45 0 0 1 0 false .leaf)) .leaf)),4,G⟩⟩
noncomputable def DSb (pcx:Nat→AV) (pc:Nat→AV) (cellx:Nat→AV) (cell:Nat→AV) (t:List UInt8) (n:Int) (nu:Int) (i:Int) (k:Nat) (ks:Nat) (zx:Nat) (z:Nat) (zdx:Nat) (zd:Nat) (G:T (T AV)):AM:=⟨⟨27,80,(.node (.node (.node .leaf (some (.ptr 5 0 0)) .leaf) none .leaf) none (.node .leaf (some (.ptr 4 0 0)) (.node .leaf (some (.int .i64 i)) .leaf))),
 [.code (cd P (27:Nat) [(1:Nat),(1:Nat),(1:Nat),(0:Nat),(1:Nat),(0:Nat),(0:Nat)]),.inLoop (cd P (27:Nat) [(1:Nat),(1:Nat),(1:Nat),(0:Nat),(1:Nat),(0:Nat),(0:Nat)]),.inBlock 2,.code (cd P (27:Nat) [(1:Nat),(1:Nat),(1:Nat),(1:Nat)])],[],.run,CallKind.normal,none⟩,
 [],
 ⟨(.node (.node (.node .leaf (some (.cells (.fn fun c=>some (cell c)) zd 35 0 0 1 0 false .leaf)) .leaf) (some (.cells (.fn fun c=>some (cellx c)) zdx 35 0 0 1 0 false .leaf)) (.node .leaf (some (.cells (.node (.node (.node .leaf (some (.slg 3 0 0 ks 0)) .leaf) (some (.str t)) .leaf) (some (.int .i64 n)) (.node (.node .leaf (some (.int .u64 nu)) .leaf) (some (.slg 2 0 0 k 0)) .leaf)) 5 45 0 0 1 0 false .leaf)) .leaf)) (some (.cells (.fn fun c=>some (pcx c)) zx 9 0 0 1 0 false .leaf)) (.node (.node .leaf (some (.cells (.node (.node (.node .leaf (some (.slg 1 0 0 ks 0)) .leaf) (some (.str t)) .leaf) (some (.int .i64 n)) (.node (.node .leaf (some (.int .u64 nu)) .leaf) (some (.slg 0 0 0 k 0)) .leaf)) 5 45 0 0 1 0 false .leaf)) .leaf) (some (.cells (.fn fun c=>some (pc c)) z 9 0 0 1 0 false .leaf)) .leaf)),6,G⟩⟩
theorem k9smn (R:AV→AHeap→Prop)(t:List UInt8)(n nu:Int)(G:T (T AV))(_K:AM→Prop):Obl P 27 (fun v h=>R v h) 0 _K [.run 15,.know 12 false,.run 7,.know 19 false,.run 7,.know 26 false,.run 60,.can 0 [] [4] [],.run 1,.done] ((zb P 27 [(.agg [.int .i64 n,.str t,.nils 0 0,.nils 0 0,.int .u64 nu]),(.agg [.int .i64 n,.str t,.nils 0 0,.nils 0 0,.int .u64 nu])] G))=(((n != n)=false)∧((!t==t)=false)∧((nu != nu)=false)∧(R (.bool true) (⟨.leaf,0,G⟩))):=by kernel_rfl
theorem k9smp (R:AV→AHeap→Prop)(pcx pc:Nat→AV)(t:List UInt8)(n nu:Int)(k zx z:Nat)(G:T (T AV))(K:AM→Prop):Obl P 27 (fun v h=>R v h) 2 K [.run 15,.know 12 false,.run 7,.know 19 false,.run 7,.know 26 false,.run 9,.know 35 false,.run 18,.can 2 [0,1,2,3] [2,3,5] []] ((ze P 27 [(.agg [.int .i64 n,.str t,.slg 0 0 0 k 0,.nils 0 0,.int .u64 nu]),(.agg [.int .i64 n,.str t,.slg 1 0 0 k 0,.nils 0 0,.int .u64 nu])] ⟨(.node (.node .leaf (some (.cells (.fn fun j=>some (pc j)) z 9 0 0 1 0 false .leaf)) .leaf) (some (.cells (.fn fun j=>some (pcx j)) zx 9 0 0 1 0 false .leaf)) .leaf),2,G⟩))=(((n != n)=false)∧((!t==t)=false)∧((nu != nu)=false)∧(((↑k:Int) != (↑k:Int))=false)∧(za fun j=>some (pcx j))∧(za fun j=>some (pc j))∧K (PSp pcx pc t n nu (Int.ofNat 0) k zx z G)):=by kernel_rfl
theorem k9smd (R:AV→AHeap→Prop)(cellx cell:Nat→AV)(t:List UInt8)(n nu:Int)(ks zdx zd:Nat)(G:T (T AV))(K:AM→Prop):Obl P 27 (fun v h=>R v h) 2 K [.run 15,.know 12 false,.run 7,.know 19 false,.run 7,.know 26 false,.run 18,.know 43 false,.run 27,.can 2 [0,1,2,3] [2,3,6] []] ((ze P 27 [(.agg [.int .i64 n,.str t,.nils 0 0,.slg 0 0 0 ks 0,.int .u64 nu]),(.agg [.int .i64 n,.str t,.nils 0 0,.slg 1 0 0 ks 0,.int .u64 nu])] ⟨(.node (.node .leaf (some (.cells (.fn fun j=>some (cell j)) zd 35 0 0 1 0 false .leaf)) .leaf) (some (.cells (.fn fun j=>some (cellx j)) zdx 35 0 0 1 0 false .leaf)) .leaf),2,G⟩))=(((n != n)=false)∧((!t==t)=false)∧((nu != nu)=false)∧(((↑ks:Int) != (↑ks:Int))=false)∧(za fun j=>some (cellx j))∧(za fun j=>some (cell j))∧K (DSd cellx cell t n nu (Int.ofNat 0) ks zdx zd G)):=by kernel_rfl
theorem k9smb (R:AV→AHeap→Prop)(pcx pc cellx cell:Nat→AV)(t:List UInt8)(n nu:Int)(k ks zx z zdx zd:Nat)(G:T (T AV))(K:AM→Prop):Obl P 27 (fun v h=>R v h) 4 K [.run 15,.know 12 false,.run 7,.know 19 false,.run 7,.know 26 false,.run 9,.know 35 false,.run 9,.know 43 false,.run 9,.can 4 [0,1,2,3,4,5] [2,3,5] []] ((ze P 27 [(.agg [.int .i64 n,.str t,.slg 0 0 0 k 0,.slg 1 0 0 ks 0,.int .u64 nu]),(.agg [.int .i64 n,.str t,.slg 2 0 0 k 0,.slg 3 0 0 ks 0,.int .u64 nu])] ⟨(.node (.node (.node .leaf (some (.cells (.fn fun j=>some (cell j)) zd 35 0 0 1 0 false .leaf)) .leaf) (some (.cells (.fn fun j=>some (cellx j)) zdx 35 0 0 1 0 false .leaf)) .leaf) (some (.cells (.fn fun j=>some (pcx j)) zx 9 0 0 1 0 false .leaf)) (.node .leaf (some (.cells (.fn fun j=>some (pc j)) z 9 0 0 1 0 false .leaf)) .leaf)),4,G⟩))=(((n != n)=false)∧((!t==t)=false)∧((nu != nu)=false)∧(((↑k:Int) != (↑k:Int))=false)∧(((↑ks:Int) != (↑ks:Int))=false)∧(za fun j=>some (pcx j))∧(za fun j=>some (cellx j))∧(za fun j=>some (pc j))∧(za fun j=>some (cell j))∧K (PSb pcx pc cellx cell t n nu (Int.ofNat 0) k ks zx z zdx zd G)):=by kernel_rfl
theorem zoN (R:AV→AHeap→Prop)(pcx pc:Nat→AV)(t p:List UInt8)(n nu i:Int)(k zx z:Nat)(G:T (T AV))(K:AM→Prop):Obl P 27 (fun v h=>R v h) 2 K [.run 9,.know 48 true,.run 9,.op,.op,.slot 55 (.str p),.run 3,.op,.op,.slot 60 (.str p),.run 2,.know 61 false,.run 9,.can 2 [0,1,2,3] [2,3,5] []] ((PSp pcx pc t n nu i k zx z G))=((decide (i<(↑k:Int))=true)∧((0:Int)≤i∧i<(↑k:Int))∧(0+i.toNat*1+1≤zx)∧(pcx (0+i.toNat*1)=AV.str p)∧((0:Int)≤i∧i<(↑k:Int))∧(0+i.toNat*1+1≤z)∧(pc (0+i.toNat*1)=AV.str p)∧((!p==p)=false)∧(za fun j=>some (pcx j))∧(za fun j=>some (pc j))∧K (PSp pcx pc t n nu (IntKind.i64.wrap (i+(1:Int))) k zx z G)):=by kernel_rfl
theorem zo8 (R:AV→AHeap→Prop)(pcx pc:Nat→AV)(t:List UInt8)(n nu i:Int)(k zx z:Nat)(G:T (T AV))(_K:AM→Prop):Obl P 27 (fun v h=>R v h) 2 _K [.run 9,.know 48 false,.run 24,.can 2 [0,1] [4] [],.run 1,.done] ((PSp pcx pc t n nu i k zx z G))=((decide (i<(↑k:Int))=false)∧(za fun j=>some (pcx j))∧(za fun j=>some (pc j))∧(R (.bool true) (⟨(.node (.node .leaf (some (.cells (.fn fun j=>some (pc j)) z 9 0 0 1 0 false .leaf)) .leaf) (some (.cells (.fn fun j=>some (pcx j)) zx 9 0 0 1 0 false .leaf)) .leaf),2,G⟩))):=by kernel_rfl
theorem zpP (R:AV→AHeap→Prop)(cellx cell:Nat→AV)(t p:List UInt8)(n nu i a c0:Int)(ks zdx zd:Nat)(G:T (T AV))(K:AM→Prop):Obl P 27 (fun v h=>R v h) 2 K [.run 9,.know 66 true,.run 9,.op,.op,.slot 73 (.agg [.str p,.int .i64 a,.int .i64 c0]),.run 3,.op,.op,.slot 78 (.agg [.str p,.int .i64 a,.int .i64 c0]),.isv (.bool false),.run 10,.can 2 [0,1,2,3] [2,3,6] []] ((DSd cellx cell t n nu i ks zdx zd G))=((decide (i<(↑ks:Int))=true)∧((0:Int)≤i∧i<(↑ks:Int))∧(0+i.toNat*3+3≤zdx)∧(AV.agg [cellx (0+i.toNat*3),cellx (0+i.toNat*3+1),cellx (0+i.toNat*3+2)]=AV.agg [AV.str p,AV.int .i64 a,AV.int .i64 c0])∧((0:Int)≤i∧i<(↑ks:Int))∧(0+i.toNat*3+3≤zd)∧(AV.agg [cell (0+i.toNat*3),cell (0+i.toNat*3+1),cell (0+i.toNat*3+2)]=AV.agg [AV.str p,AV.int .i64 a,AV.int .i64 c0])∧(∀ (h:AHeap),vd P h BinOp.neq 35 (zi (Operand.tmp 73) || zi (Operand.tmp 78)) (AV.agg [AV.str p,AV.int .i64 a,AV.int .i64 c0]) (AV.agg [AV.str p,AV.int .i64 a,AV.int .i64 c0])=some (AV.bool false))∧(za fun j=>some (cellx j))∧(za fun j=>some (cell j))∧K (DSd cellx cell t n nu (IntKind.i64.wrap (i+(1:Int))) ks zdx zd G)):=by kernel_rfl
theorem zp0 (R:AV→AHeap→Prop)(cellx cell:Nat→AV)(t:List UInt8)(n nu i:Int)(ks zdx zd:Nat)(G:T (T AV))(_K:AM→Prop):Obl P 27 (fun v h=>R v h) 2 _K [.run 9,.know 66 false,.run 6,.can 2 [0,1] [4] [],.run 1,.done] ((DSd cellx cell t n nu i ks zdx zd G))=((decide (i<(↑ks:Int))=false)∧(za fun j=>some (cellx j))∧(za fun j=>some (cell j))∧(R (.bool true) (⟨(.node (.node .leaf (some (.cells (.fn fun j=>some (cell j)) zd 35 0 0 1 0 false .leaf)) .leaf) (some (.cells (.fn fun j=>some (cellx j)) zdx 35 0 0 1 0 false .leaf)) .leaf),2,G⟩))):=by kernel_rfl
theorem zou (R:AV→AHeap→Prop)(pcx pc cellx cell:Nat→AV)(t p:List UInt8)(n nu i:Int)(k ks zx z zdx zd:Nat)(G:T (T AV))(K:AM→Prop):Obl P 27 (fun v h=>R v h) 4 K [.run 9,.know 48 true,.run 9,.op,.op,.slot 55 (.str p),.run 3,.op,.op,.slot 60 (.str p),.run 2,.know 61 false,.run 9,.can 4 [0,1,2,3,4,5] [2,3,5] []] ((PSb pcx pc cellx cell t n nu i k ks zx z zdx zd G))=((decide (i<(↑k:Int))=true)∧((0:Int)≤i∧i<(↑k:Int))∧(0+i.toNat*1+1≤zx)∧(pcx (0+i.toNat*1)=AV.str p)∧((0:Int)≤i∧i<(↑k:Int))∧(0+i.toNat*1+1≤z)∧(pc (0+i.toNat*1)=AV.str p)∧((!p==p)=false)∧(za fun j=>some (pcx j))∧(za fun j=>some (cellx j))∧(za fun j=>some (pc j))∧(za fun j=>some (cell j))∧K (PSb pcx pc cellx cell t n nu (IntKind.i64.wrap (i+(1:Int))) k ks zx z zdx zd G)):=by kernel_rfl
theorem zpa (R:AV→AHeap→Prop)(pcx pc cellx cell:Nat→AV)(t:List UInt8)(n nu i:Int)(k ks zx z zdx zd:Nat)(G:T (T AV))(K:AM→Prop):Obl P 27 (fun v h=>R v h) 4 K [.run 9,.know 48 false,.run 9,.can 4 [0,1,2,3,4,5] [2,3,6] []] ((PSb pcx pc cellx cell t n nu i k ks zx z zdx zd G))=((decide (i<(↑k:Int))=false)∧(za fun j=>some (pcx j))∧(za fun j=>some (cellx j))∧(za fun j=>some (pc j))∧(za fun j=>some (cell j))∧K (DSb pcx pc cellx cell t n nu (Int.ofNat 0) k ks zx z zdx zd G)):=by kernel_rfl
theorem zpz (R:AV→AHeap→Prop)(pcx pc cellx cell:Nat→AV)(t p:List UInt8)(n nu i a c0:Int)(k ks zx z zdx zd:Nat)(G:T (T AV))(K:AM→Prop):Obl P 27 (fun v h=>R v h) 4 K [.run 9,.know 66 true,.run 9,.op,.op,.slot 73 (.agg [.str p,.int .i64 a,.int .i64 c0]),.run 3,.op,.op,.slot 78 (.agg [.str p,.int .i64 a,.int .i64 c0]),.isv (.bool false),.run 10,.can 4 [0,1,2,3,4,5] [2,3,6] []] ((DSb pcx pc cellx cell t n nu i k ks zx z zdx zd G))=((decide (i<(↑ks:Int))=true)∧((0:Int)≤i∧i<(↑ks:Int))∧(0+i.toNat*3+3≤zdx)∧(AV.agg [cellx (0+i.toNat*3),cellx (0+i.toNat*3+1),cellx (0+i.toNat*3+2)]=AV.agg [AV.str p,AV.int .i64 a,AV.int .i64 c0])∧((0:Int)≤i∧i<(↑ks:Int))∧(0+i.toNat*3+3≤zd)∧(AV.agg [cell (0+i.toNat*3),cell (0+i.toNat*3+1),cell (0+i.toNat*3+2)]=AV.agg [AV.str p,AV.int .i64 a,AV.int .i64 c0])∧(∀ (h:AHeap),vd P h BinOp.neq 35 (zi (Operand.tmp 73) || zi (Operand.tmp 78)) (AV.agg [AV.str p,AV.int .i64 a,AV.int .i64 c0]) (AV.agg [AV.str p,AV.int .i64 a,AV.int .i64 c0])=some (AV.bool false))∧(za fun j=>some (pcx j))∧(za fun j=>some (cellx j))∧(za fun j=>some (pc j))∧(za fun j=>some (cell j))∧K (DSb pcx pc cellx cell t n nu (IntKind.i64.wrap (i+(1:Int))) k ks zx z zdx zd G)):=by kernel_rfl
theorem zoD (R:AV→AHeap→Prop)(pcx pc cellx cell:Nat→AV)(t:List UInt8)(n nu i:Int)(k ks zx z zdx zd:Nat)(G:T (T AV))(_K:AM→Prop):Obl P 27 (fun v h=>R v h) 4 _K [.run 9,.know 66 false,.run 6,.can 4 [0,1,2,3] [4] [],.run 1,.done] ((DSb pcx pc cellx cell t n nu i k ks zx z zdx zd G))=((decide (i<(↑ks:Int))=false)∧(za fun j=>some (pcx j))∧(za fun j=>some (cellx j))∧(za fun j=>some (pc j))∧(za fun j=>some (cell j))∧(R (.bool true) (⟨(.node (.node (.node .leaf (some (.cells (.fn fun j=>some (cell j)) zd 35 0 0 1 0 false .leaf)) .leaf) (some (.cells (.fn fun j=>some (cellx j)) zdx 35 0 0 1 0 false .leaf)) .leaf) (some (.cells (.fn fun j=>some (pcx j)) zx 9 0 0 1 0 false .leaf)) (.node .leaf (some (.cells (.fn fun j=>some (pc j)) z 9 0 0 1 0 false .leaf)) .leaf)),4,G⟩))):=by kernel_rfl
section
variable {n nu:Int} {t:List UInt8} {gx g:Nat→List UInt8} {fx f:Nat→Dg} {k ks zx z zdx zd:Nat}
theorem sm_n:Goal P 0 27 (fun v _=>v=.bool true) (zb P 27 [.agg [.int .i64 n,.str t,.nils 0 0,.nils 0 0,.int .u64 nu],.agg [.int .i64 n,.str t,.nils 0 0,.nils 0 0,.int .u64 nu]] GW) :=
 (og (k9smn _ (t) (n) (nu) GW _).symm ⟨by simp,by simp,by simp,rfl⟩)
theorem smP (hz:k*1≤z)(hzx:k*1≤zx)(hk:k<100000)(hg:∀ i,i<k→gx i=g i):∀ r i,i+r=k→Goal P 2 27 (fun v h=>v=.bool true∧h=⟨(.node (.node .leaf (some (.cells (.fn fun c=>some (es g c)) z 9 0 0 1 0 false .leaf)) .leaf) (some (.cells (.fn fun c=>some (es gx c)) zx 9 0 0 1 0 false .leaf)) .leaf),2,GW⟩) (PSp (es gx) (es g) (t) (n) (nu) ((i:Int)) (k) (zx) (z) GW)
 | 0,i,hi=>by
  obtain rfl:i=k:=by omega
  exact (og (zo8 _ (es gx) (es g) (t) (n) (nu) ((i:Int)) (i) (zx) (z) GW _).symm ⟨decide_eq_false (by omega),xe _,xe _,⟨rfl,rfl⟩⟩)
 | r+1,i,hi=>by
  have ih:=smP hz hzx hk hg r (i+1) (by omega)
  rw [← up1 i (by omega)] at ih
  exact (og (zoN _ (es gx) (es g) (t) (g i) (n) (nu) ((i:Int)) (k) (zx) (z) GW _).symm ⟨decide_eq_true (by omega),⟨by omega,by omega⟩,by omega,by rw [zkL,hg i (by omega)],⟨by omega,by omega⟩,by omega,zkL g i,by rw [beq_self_eq_true]; rfl,xe _,xe _,ih⟩)
theorem sm_p (hz:k*1≤z)(hzx:k*1≤zx)(hk:k<100000)(hg:∀ i,i<k→gx i=g i):Goal P 2 27 (fun v h=>v=.bool true∧h=⟨(.node (.node .leaf (some (.cells (.fn fun c=>some (es g c)) z 9 0 0 1 0 false .leaf)) .leaf) (some (.cells (.fn fun c=>some (es gx c)) zx 9 0 0 1 0 false .leaf)) .leaf),2,GW⟩) (ze P 27 [.agg [.int .i64 n,.str t,.slg 0 0 0 k 0,.nils 0 0,.int .u64 nu],.agg [.int .i64 n,.str t,.slg 1 0 0 k 0,.nils 0 0,.int .u64 nu]] ⟨(.node (.node .leaf (some (.cells (.fn fun c=>some (es g c)) z 9 0 0 1 0 false .leaf)) .leaf) (some (.cells (.fn fun c=>some (es gx c)) zx 9 0 0 1 0 false .leaf)) .leaf),2,GW⟩) :=
 (og (k9smp _ (es gx) (es g) (t) (n) (nu) (k) (zx) (z) GW _).symm ⟨by simp,by simp,by simp,by simp,xe _,xe _,smP hz hzx hk hg k 0 (by omega)⟩)
theorem smD (hzd:ks*3≤zd)(hzdx:ks*3≤zdx)(hks:ks<100000)(hf:∀ i,i<ks→fx i=f i):∀ r i,i+r=ks→Goal P 2 27 (fun v h=>v=.bool true∧h=⟨(.node (.node .leaf (some (.cells (.fn fun c=>some (el f c)) zd 35 0 0 1 0 false .leaf)) .leaf) (some (.cells (.fn fun c=>some (el fx c)) zdx 35 0 0 1 0 false .leaf)) .leaf),2,GW⟩) (DSd (el fx) (el f) (t) (n) (nu) ((i:Int)) (ks) (zdx) (zd) GW)
 | 0,i,hi=>by
  obtain rfl:i=ks:=by omega
  exact (og (zp0 _ (el fx) (el f) (t) (n) (nu) ((i:Int)) (i) (zdx) (zd) GW _).symm ⟨decide_eq_false (by omega),zh _,zh _,⟨rfl,rfl⟩⟩)
 | r+1,i,hi=>by
  have ih:=smD hzd hzdx hks hf r (i+1) (by omega)
  rw [← up1 i (by omega)] at ih
  exact (og (zpP _ (el fx) (el f) (t) ((f i).1) (n) (nu) ((i:Int)) ((f i).2.1) ((f i).2.2) (ks) (zdx) (zd) GW _).symm ⟨decide_eq_true (by omega),⟨by omega,by omega⟩,by omega,by rw [Int.toNat_natCast,xy,hf i (by omega)],⟨by omega,by omega⟩,by omega,by rw [Int.toNat_natCast,xy],fun h=>by rw [ne35,decide_eq_true rfl]; rfl,zh _,zh _,ih⟩)
theorem sm_d (hzd:ks*3≤zd)(hzdx:ks*3≤zdx)(hks:ks<100000)(hf:∀ i,i<ks→fx i=f i):Goal P 2 27 (fun v h=>v=.bool true∧h=⟨(.node (.node .leaf (some (.cells (.fn fun c=>some (el f c)) zd 35 0 0 1 0 false .leaf)) .leaf) (some (.cells (.fn fun c=>some (el fx c)) zdx 35 0 0 1 0 false .leaf)) .leaf),2,GW⟩) (ze P 27 [.agg [.int .i64 n,.str t,.nils 0 0,.slg 0 0 0 ks 0,.int .u64 nu],.agg [.int .i64 n,.str t,.nils 0 0,.slg 1 0 0 ks 0,.int .u64 nu]] ⟨(.node (.node .leaf (some (.cells (.fn fun c=>some (el f c)) zd 35 0 0 1 0 false .leaf)) .leaf) (some (.cells (.fn fun c=>some (el fx c)) zdx 35 0 0 1 0 false .leaf)) .leaf),2,GW⟩) :=
 (og (k9smd _ (el fx) (el f) (t) (n) (nu) (ks) (zdx) (zd) GW _).symm ⟨by simp,by simp,by simp,by simp,zh _,zh _,smD hzd hzdx hks hf ks 0 (by omega)⟩)
theorem smB2 (hzd:ks*3≤zd)(hzdx:ks*3≤zdx)(hks:ks<100000)(hf:∀ i,i<ks→fx i=f i):∀ r i,i+r=ks→Goal P 4 27 (fun v h=>v=.bool true∧h=⟨(.node (.node (.node .leaf (some (.cells (.fn fun c=>some (el f c)) zd 35 0 0 1 0 false .leaf)) .leaf) (some (.cells (.fn fun c=>some (el fx c)) zdx 35 0 0 1 0 false .leaf)) .leaf) (some (.cells (.fn fun c=>some (es gx c)) zx 9 0 0 1 0 false .leaf)) (.node .leaf (some (.cells (.fn fun c=>some (es g c)) z 9 0 0 1 0 false .leaf)) .leaf)),4,GW⟩) (DSb (es gx) (es g) (el fx) (el f) (t) (n) (nu) ((i:Int)) (k) (ks) (zx) (z) (zdx) (zd) GW)
 | 0,i,hi=>by
  obtain rfl:i=ks:=by omega
  exact (og (zoD _ (es gx) (es g) (el fx) (el f) (t) (n) (nu) ((i:Int)) (k) (i) (zx) (z) (zdx) (zd) GW _).symm ⟨decide_eq_false (by omega),xe _,zh _,xe _,zh _,⟨rfl,rfl⟩⟩)
 | r+1,i,hi=>by
  have ih:=smB2 hzd hzdx hks hf r (i+1) (by omega)
  rw [← up1 i (by omega)] at ih
  exact (og (zpz _ (es gx) (es g) (el fx) (el f) (t) ((f i).1) (n) (nu) ((i:Int)) ((f i).2.1) ((f i).2.2) (k) (ks) (zx) (z) (zdx) (zd) GW _).symm ⟨decide_eq_true (by omega),⟨by omega,by omega⟩,by omega,by rw [Int.toNat_natCast,xy,hf i (by omega)],⟨by omega,by omega⟩,by omega,by rw [Int.toNat_natCast,xy],fun h=>by rw [ne35,decide_eq_true rfl]; rfl,xe _,zh _,xe _,zh _,ih⟩)
theorem smB (hz:k*1≤z)(hzx:k*1≤zx)(hk:k<100000)(hg:∀ i,i<k→gx i=g i)(hzd:ks*3≤zd)(hzdx:ks*3≤zdx)(hks:ks<100000)(hf:∀ i,i<ks→fx i=f i):∀ r i,i+r=k→Goal P 4 27 (fun v h=>v=.bool true∧h=⟨(.node (.node (.node .leaf (some (.cells (.fn fun c=>some (el f c)) zd 35 0 0 1 0 false .leaf)) .leaf) (some (.cells (.fn fun c=>some (el fx c)) zdx 35 0 0 1 0 false .leaf)) .leaf) (some (.cells (.fn fun c=>some (es gx c)) zx 9 0 0 1 0 false .leaf)) (.node .leaf (some (.cells (.fn fun c=>some (es g c)) z 9 0 0 1 0 false .leaf)) .leaf)),4,GW⟩) (PSb (es gx) (es g) (el fx) (el f) (t) (n) (nu) ((i:Int)) (k) (ks) (zx) (z) (zdx) (zd) GW)
 | 0,i,hi=>by
  obtain rfl:i=k:=by omega
  exact (og (zpa _ (es gx) (es g) (el fx) (el f) (t) (n) (nu) ((i:Int)) (i) (ks) (zx) (z) (zdx) (zd) GW _).symm ⟨decide_eq_false (by omega),xe _,zh _,xe _,zh _,smB2 hzd hzdx hks hf ks 0 (by omega)⟩)
 | r+1,i,hi=>by
  have ih:=smB hz hzx hk hg hzd hzdx hks hf r (i+1) (by omega)
  rw [← up1 i (by omega)] at ih
  exact (og (zou _ (es gx) (es g) (el fx) (el f) (t) (g i) (n) (nu) ((i:Int)) (k) (ks) (zx) (z) (zdx) (zd) GW _).symm ⟨decide_eq_true (by omega),⟨by omega,by omega⟩,by omega,by rw [zkL,hg i (by omega)],⟨by omega,by omega⟩,by omega,zkL g i,by rw [beq_self_eq_true]; rfl,xe _,zh _,xe _,zh _,ih⟩)
theorem sm_b (hz:k*1≤z)(hzx:k*1≤zx)(hk:k<100000)(hg:∀ i,i<k→gx i=g i)(hzd:ks*3≤zd)(hzdx:ks*3≤zdx)(hks:ks<100000)(hf:∀ i,i<ks→fx i=f i):Goal P 4 27 (fun v h=>v=.bool true∧h=⟨(.node (.node (.node .leaf (some (.cells (.fn fun c=>some (el f c)) zd 35 0 0 1 0 false .leaf)) .leaf) (some (.cells (.fn fun c=>some (el fx c)) zdx 35 0 0 1 0 false .leaf)) .leaf) (some (.cells (.fn fun c=>some (es gx c)) zx 9 0 0 1 0 false .leaf)) (.node .leaf (some (.cells (.fn fun c=>some (es g c)) z 9 0 0 1 0 false .leaf)) .leaf)),4,GW⟩) (ze P 27 [.agg [.int .i64 n,.str t,.slg 0 0 0 k 0,.slg 1 0 0 ks 0,.int .u64 nu],.agg [.int .i64 n,.str t,.slg 2 0 0 k 0,.slg 3 0 0 ks 0,.int .u64 nu]] ⟨(.node (.node (.node .leaf (some (.cells (.fn fun c=>some (el f c)) zd 35 0 0 1 0 false .leaf)) .leaf) (some (.cells (.fn fun c=>some (el fx c)) zdx 35 0 0 1 0 false .leaf)) .leaf) (some (.cells (.fn fun c=>some (es gx c)) zx 9 0 0 1 0 false .leaf)) (.node .leaf (some (.cells (.fn fun c=>some (es g c)) z 9 0 0 1 0 false .leaf)) .leaf)),4,GW⟩) :=
 (og (k9smb _ (es gx) (es g) (el fx) (el f) (t) (n) (nu) (k) (ks) (zx) (z) (zdx) (zd) GW _).symm ⟨by simp,by simp,by simp,by simp,by simp,xe _,zh _,xe _,zh _,smB hz hzx hk hg hzd hzdx hks hf k 0 (by omega)⟩)
end
end Go.Proofs.YtdbfpjgnlfejmaaDoor.dg
end
