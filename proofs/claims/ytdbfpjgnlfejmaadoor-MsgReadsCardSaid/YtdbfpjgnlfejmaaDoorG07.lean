import Derived.Test.YtdbfpjgnlfejmaaDoorG00
import Derived.Test.YtdbfpjgnlfejmaaDoorG01
import Derived.Test.YtdbfpjgnlfejmaaDoorG02
import Derived.Test.YtdbfpjgnlfejmaaDoorG03
import Derived.Test.YtdbfpjgnlfejmaaDoorG04
import Derived.Test.YtdbfpjgnlfejmaaDoorG05
import Derived.Test.YtdbfpjgnlfejmaaDoorG06
section
set_option maxRecDepth 100000
set_option linter.unusedVariables false
namespace Go.Proofs.YtdbfpjgnlfejmaaDoor.dg
open Go Ev mq
noncomputable abbrev RH (l:List UInt8) (b:Bool) (G:T (T AV)):AHeap:=⟨.node .leaf (some (.cells (.node (.node .leaf (some (.bool b)) .leaf) (some (.str l)) .leaf) 2 86 0 0 1 0 false .leaf)) .leaf,1,G⟩
noncomputable def ReA (s l:List UInt8) (b:Bool) (n i:Int) (G:T (T AV)):AM:=⟨⟨20,56,(.node (.node (.node (.node .leaf (some (.int .u64 i)) .leaf) none .leaf) none (.node .leaf (some (.int .u64 n)) .leaf)) (some (.str s)) (.node (.node .leaf (some (.ptr 0 0 0)) .leaf) none (.node .leaf (some (.nils 0 0)) .leaf))),
 [.code (cd P (20:Nat) [(1:Nat),(1:Nat),(1:Nat),(1:Nat),(0:Nat),(1:Nat),(0:Nat),(0:Nat)]),.inLoop (cd P (20:Nat) [(1:Nat),(1:Nat),(1:Nat),(1:Nat),(0:Nat),(1:Nat),(0:Nat),(0:Nat)]),.inBlock 0,.code (cd P (20:Nat) [(1:Nat),(1:Nat),(1:Nat),(1:Nat),(1:Nat)])],[],.run,CallKind.normal,none⟩,
 [],
 ⟨(.node .leaf (some (.cells (.node (.node .leaf (some (.bool b)) .leaf) (some (.str l)) .leaf) 2 86 0 0 1 0 false .leaf)) .leaf),1,G⟩⟩
noncomputable def ReB (cell:Nat→AV) (s l:List UInt8) (b:Bool) (n i:Int) (m z:Nat) (G:T (T AV)):AM:=⟨⟨20,56,(.node (.node (.node (.node .leaf (some (.int .u64 i)) .leaf) none .leaf) none (.node .leaf (some (.int .u64 n)) .leaf)) (some (.str s)) (.node (.node .leaf (some (.ptr 0 0 0)) .leaf) none (.node .leaf (some (.slg 1 0 0 m 0)) .leaf))),
 [.code (cd P (20:Nat) [(1:Nat),(1:Nat),(1:Nat),(1:Nat),(0:Nat),(1:Nat),(0:Nat),(0:Nat)]),.inLoop (cd P (20:Nat) [(1:Nat),(1:Nat),(1:Nat),(1:Nat),(0:Nat),(1:Nat),(0:Nat),(0:Nat)]),.inBlock 0,.code (cd P (20:Nat) [(1:Nat),(1:Nat),(1:Nat),(1:Nat),(1:Nat)])],[],.run,CallKind.normal,none⟩,
 [],
 ⟨(.node (.node .leaf (some (.cells (.fn fun c=>some (cell c)) z 35 0 0 1 0 false .leaf)) .leaf) (some (.cells (.node (.node .leaf (some (.bool b)) .leaf) (some (.str l)) .leaf) 2 86 0 0 1 0 false .leaf)) .leaf),2,G⟩⟩
theorem r0 (R:AV→AHeap→Prop)(s l:List UInt8)(n:Int)(b:Bool)(G:T (T AV))(K:AM→Prop):Obl P 20 (fun v h=>R v h) 0 K [.run 16,.callh [(0,0,[])] [0] (.int .u64 n) (RH l b G),.run 13,.can 0 [0] [0,4,5,6,7] []] ((zb P 20 [.str s] G))=((Goal P 1 60 (fun v h=>v=AV.int .u64 n∧h=RH l b G) (ze P 60 [.ptr 0 0 0] (RH s false G)))∧K (ReA s l b n (Int.ofNat 0) G)):=by kernel_rfl
theorem rAx (R:AV→AHeap→Prop)(s p l l2 l3 l4:List UInt8)(n i a c0:Int)(b b2 b3 b4:Bool)(G:T (T AV))(_K:AM→Prop):Obl P 20 (fun v h=>R v h) 0 _K [.run 7,.know 19 true,.run 19,.know 22 true,.run 8,.callh [(0,0,[])] [0] (.str p) (RH l2 b2 G),.run 6,.callh [(0,0,[])] [0] (.int .u64 a) (RH l3 b3 G),.run 6,.callh [(0,0,[])] [0] (.int .u64 c0) (RH l4 b4 G),.run 8,.know 33 true,.run 10,.can 0 [] [2,3] [],.run 1,.done] ((ReA s l b n i G))=((decide (i<n)=true)∧((!b)=true)∧(Goal P 1 62 (fun v h=>v=AV.str p∧h=RH l2 b2 G) (ze P 62 [.ptr 0 0 0] (RH l b G)))∧(Goal P 1 60 (fun v h=>v=AV.int .u64 a∧h=RH l3 b3 G) (ze P 60 [.ptr 0 0 0] (RH l2 b2 G)))∧(Goal P 1 60 (fun v h=>v=AV.int .u64 c0∧h=RH l4 b4 G) (ze P 60 [.ptr 0 0 0] (RH l3 b3 G)))∧(decide (a≥(2147483648:Int))=true)∧(R (.tup [.nils 0 0,.int .i64 4]) (⟨.leaf,0,G⟩))):=by kernel_rfl
theorem rAy (R:AV→AHeap→Prop)(s p l l2 l3 l4:List UInt8)(n i a c0:Int)(b b2 b3 b4:Bool)(G:T (T AV))(_K:AM→Prop):Obl P 20 (fun v h=>R v h) 0 _K [.run 7,.know 19 true,.run 19,.know 22 true,.run 8,.callh [(0,0,[])] [0] (.str p) (RH l2 b2 G),.run 6,.callh [(0,0,[])] [0] (.int .u64 a) (RH l3 b3 G),.run 6,.callh [(0,0,[])] [0] (.int .u64 c0) (RH l4 b4 G),.run 8,.know 33 false,.run 4,.know 36 true,.run 6,.can 0 [] [2,3] [],.run 1,.done] ((ReA s l b n i G))=((decide (i<n)=true)∧((!b)=true)∧(Goal P 1 62 (fun v h=>v=AV.str p∧h=RH l2 b2 G) (ze P 62 [.ptr 0 0 0] (RH l b G)))∧(Goal P 1 60 (fun v h=>v=AV.int .u64 a∧h=RH l3 b3 G) (ze P 60 [.ptr 0 0 0] (RH l2 b2 G)))∧(Goal P 1 60 (fun v h=>v=AV.int .u64 c0∧h=RH l4 b4 G) (ze P 60 [.ptr 0 0 0] (RH l3 b3 G)))∧(decide (a≥(2147483648:Int))=false)∧(decide (c0 > (100:Int))=true)∧(R (.tup [.nils 0 0,.int .i64 4]) (⟨.leaf,0,G⟩))):=by kernel_rfl
theorem rAg (R:AV→AHeap→Prop)(cell':Nat→AV)(s p l l2 l3 l4:List UInt8)(n i a c0:Int)(b b2 b3 b4:Bool)(z2:Nat)(G:T (T AV))(K:AM→Prop):Obl P 20 (fun v h=>R v h) 0 K [.run 7,.know 19 true,.run 19,.know 22 true,.run 8,.callh [(0,0,[])] [0] (.str p) (RH l2 b2 G),.run 6,.callh [(0,0,[])] [0] (.int .u64 a) (RH l3 b3 G),.run 6,.callh [(0,0,[])] [0] (.int .u64 c0) (RH l4 b4 G),.run 8,.know 33 false,.run 4,.know 36 false,.run 21,.told 2 (.fn fun k=>some (cell' k)) z2,.can 0 [0,2] [0,4,5,6,7] []] ((ReA s l b n i G))=((decide (i<n)=true)∧((!b)=true)∧(Goal P 1 62 (fun v h=>v=AV.str p∧h=RH l2 b2 G) (ze P 62 [.ptr 0 0 0] (RH l b G)))∧(Goal P 1 60 (fun v h=>v=AV.int .u64 a∧h=RH l3 b3 G) (ze P 60 [.ptr 0 0 0] (RH l2 b2 G)))∧(Goal P 1 60 (fun v h=>v=AV.int .u64 c0∧h=RH l4 b4 G) (ze P 60 [.ptr 0 0 0] (RH l3 b3 G)))∧(decide (a≥(2147483648:Int))=false)∧(decide (c0 > (100:Int))=false)∧(xZ (z2) ((.fn fun k=>some (cell' k))) ((.node (.node .leaf (some (.int .i64 (IntKind.i64.wrap a))) .leaf) (some (.str p)) (.node .leaf (some (.int .i64 (IntKind.i64.wrap c0))) .leaf))))∧(z2=3)∧(za fun k=>some (cell' k))∧K (ReB cell' s l4 b4 n (IntKind.u64.wrap (i+(1:Int))) 1 z2 G)):=by kernel_rfl
section
set_option linter.unusedSectionVars false
variable (R:AV→AHeap→Prop) (s l:List UInt8) (n i:Int) (G:T (T AV)) (_K:AM→Prop)
include R s l n i G _K
theorem rAb:Obl P 20 (fun v h=>R v h) 0 _K [.run 7,.know 19 true,.run 62,.can 0 [] [2,3] [],.run 1,.done] ((ReA s l true n i G))=((decide (i<n)=true)∧(R (.tup [.nils 0 0,.int .i64 4]) (⟨.leaf,0,G⟩))):=by kernel_rfl
theorem rAe:Obl P 20 (fun v h=>R v h) 0 _K [.run 7,.know 19 false,.run 47,.can 0 [] [2,3] [],.run 1,.done] ((ReA s l true n i G))=((decide (i<n)=false)∧(R (.tup [.nils 0 0,.int .i64 4]) (⟨.leaf,0,G⟩))):=by kernel_rfl
theorem rAl:Obl P 20 (fun v h=>R v h) 0 _K [.run 7,.know 19 false,.run 35,.know 49 true,.run 12,.can 0 [] [2,3] [],.run 1,.done] ((ReA s l false n i G))=((decide (i<n)=false)∧((!l==([]:List UInt8))=true)∧(R (.tup [.nils 0 0,.int .i64 4]) (⟨.leaf,0,G⟩))):=by kernel_rfl
end
theorem rAq (R:AV→AHeap→Prop)(s t:List UInt8)(n i:Int)(G:T (T AV))(_K:AM→Prop):Obl P 20 (fun v h=>R v h) 0 _K [.run 7,.know 19 false,.run 37,.callh [] [0] (.str t) ⟨.leaf,0,G⟩,.run 4,.know 54 false,.run 8,.can 0 [] [2,3] [],.run 1,.done] ((ReA s [] false n i G))=((decide (i<n)=false)∧(Goal P 0 15 (fun v h=>v=AV.str t∧h={ objs:=T.leaf,next:=0,glob:=G }) (zb P 15 [.nils 0 0] G))∧((!t==s)=false)∧(R (.tup [.nils 0 0,.int .i64 0]) (⟨.leaf,0,G⟩))):=by kernel_rfl
theorem rAw (R:AV→AHeap→Prop)(s t:List UInt8)(n i:Int)(G:T (T AV))(_K:AM→Prop):Obl P 20 (fun v h=>R v h) 0 _K [.run 7,.know 19 false,.run 37,.callh [] [0] (.str t) ⟨.leaf,0,G⟩,.run 4,.know 54 true,.run 6,.can 0 [] [2,3] [],.run 1,.done] ((ReA s [] false n i G))=((decide (i<n)=false)∧(Goal P 0 15 (fun v h=>v=AV.str t∧h={ objs:=T.leaf,next:=0,glob:=G }) (zb P 15 [.nils 0 0] G))∧((!t==s)=true)∧(R (.tup [.nils 0 0,.int .i64 4]) (⟨.leaf,0,G⟩))):=by kernel_rfl
theorem rBx (R:AV→AHeap→Prop)(cell:Nat→AV)(s p l l2 l3 l4:List UInt8)(n i a c0:Int)(b b2 b3 b4:Bool)(m z:Nat)(G:T (T AV))(_K:AM→Prop):Obl P 20 (fun v h=>R v h) 0 _K [.run 7,.know 19 true,.run 19,.know 22 true,.run 8,.callh [(0,0,[])] [0] (.str p) (RH l2 b2 G),.run 6,.callh [(0,0,[])] [0] (.int .u64 a) (RH l3 b3 G),.run 6,.callh [(0,0,[])] [0] (.int .u64 c0) (RH l4 b4 G),.run 8,.know 33 true,.run 10,.can 0 [] [2,3] [],.run 1,.done] ((ReB cell s l b n i m z G))=((decide (i<n)=true)∧((!b)=true)∧(Goal P 1 62 (fun v h=>v=AV.str p∧h=RH l2 b2 G) (ze P 62 [.ptr 0 0 0] (RH l b G)))∧(Goal P 1 60 (fun v h=>v=AV.int .u64 a∧h=RH l3 b3 G) (ze P 60 [.ptr 0 0 0] (RH l2 b2 G)))∧(Goal P 1 60 (fun v h=>v=AV.int .u64 c0∧h=RH l4 b4 G) (ze P 60 [.ptr 0 0 0] (RH l3 b3 G)))∧(decide (a≥(2147483648:Int))=true)∧(R (.tup [.nils 0 0,.int .i64 4]) (⟨.leaf,0,G⟩))):=by kernel_rfl
theorem rBy (R:AV→AHeap→Prop)(cell:Nat→AV)(s p l l2 l3 l4:List UInt8)(n i a c0:Int)(b b2 b3 b4:Bool)(m z:Nat)(G:T (T AV))(_K:AM→Prop):Obl P 20 (fun v h=>R v h) 0 _K [.run 7,.know 19 true,.run 19,.know 22 true,.run 8,.callh [(0,0,[])] [0] (.str p) (RH l2 b2 G),.run 6,.callh [(0,0,[])] [0] (.int .u64 a) (RH l3 b3 G),.run 6,.callh [(0,0,[])] [0] (.int .u64 c0) (RH l4 b4 G),.run 8,.know 33 false,.run 4,.know 36 true,.run 6,.can 0 [] [2,3] [],.run 1,.done] ((ReB cell s l b n i m z G))=((decide (i<n)=true)∧((!b)=true)∧(Goal P 1 62 (fun v h=>v=AV.str p∧h=RH l2 b2 G) (ze P 62 [.ptr 0 0 0] (RH l b G)))∧(Goal P 1 60 (fun v h=>v=AV.int .u64 a∧h=RH l3 b3 G) (ze P 60 [.ptr 0 0 0] (RH l2 b2 G)))∧(Goal P 1 60 (fun v h=>v=AV.int .u64 c0∧h=RH l4 b4 G) (ze P 60 [.ptr 0 0 0] (RH l3 b3 G)))∧(decide (a≥(2147483648:Int))=false)∧(decide (c0 > (100:Int))=true)∧(R (.tup [.nils 0 0,.int .i64 4]) (⟨.leaf,0,G⟩))):=by kernel_rfl
theorem rBg (R:AV→AHeap→Prop)(cell cell':Nat→AV)(s p l l2 l3 l4:List UInt8)(n i a c0:Int)(b b2 b3 b4:Bool)(m z z2:Nat)(G:T (T AV))(K:AM→Prop):Obl P 20 (fun v h=>R v h) 0 K [.run 7,.know 19 true,.run 19,.know 22 true,.run 8,.callh [(0,0,[])] [0] (.str p) (RH l2 b2 G),.run 6,.callh [(0,0,[])] [0] (.int .u64 a) (RH l3 b3 G),.run 6,.callh [(0,0,[])] [0] (.int .u64 c0) (RH l4 b4 G),.run 8,.know 33 false,.run 4,.know 36 false,.run 11,.opw false,.run 9,.told 1 (.fn fun k=>some (cell' k)) z2,.can 0 [0,1] [0,4,5,6,7] []] ((ReB cell s l b n i m z G))=((decide (i<n)=true)∧((!b)=true)∧(Goal P 1 62 (fun v h=>v=AV.str p∧h=RH l2 b2 G) (ze P 62 [.ptr 0 0 0] (RH l b G)))∧(Goal P 1 60 (fun v h=>v=AV.int .u64 a∧h=RH l3 b3 G) (ze P 60 [.ptr 0 0 0] (RH l2 b2 G)))∧(Goal P 1 60 (fun v h=>v=AV.int .u64 c0∧h=RH l4 b4 G) (ze P 60 [.ptr 0 0 0] (RH l3 b3 G)))∧(decide (a≥(2147483648:Int))=false)∧(decide (c0 > (100:Int))=false)∧((0+1*DS≤3∧∀ (k:Nat),k<1*DS→∃ v,((T.leaf.node (some (AV.int .i64 (IntKind.i64.wrap a))) T.leaf).node (some (AV.str p)) (T.leaf.node (some (AV.int .i64 (IntKind.i64.wrap c0))) T.leaf)).get (0+k)=some v∧v.one=true)∧0<1∧0+m*3≤z∧0≤0+m*3∧0=0*DS∧xz (m+1) 32=true∧z<0+(m+1)*3)∧(xZ (z2) ((.fn fun k=>some (cell' k))) ((.fn fun k=>bif (0+m*DS).ble k&&k.blt (0+m*DS+1*DS) then (fun k=>((T.leaf.node (some (AV.int .i64 (IntKind.i64.wrap a))) T.leaf).node (some (AV.str p)) (T.leaf.node (some (AV.int .i64 (IntKind.i64.wrap c0))) T.leaf)).get (0+k)) (k - (0+m*DS)) else (T.fn fun j=>some (cell j)).get k)))∧(z2=0+m*3+3)∧(za fun k=>some (cell' k))∧K (ReB cell' s l4 b4 n (IntKind.u64.wrap (i+(1:Int))) (m+1) z2 G)):=by kernel_rfl
section
set_option linter.unusedSectionVars false
variable (R:AV→AHeap→Prop) (cell:Nat→AV) (s l:List UInt8) (n i:Int) (m z:Nat) (G:T (T AV)) (_K:AM→Prop)
include R cell s l n i m z G _K
theorem rBb:Obl P 20 (fun v h=>R v h) 0 _K [.run 7,.know 19 true,.run 62,.can 0 [] [2,3] [],.run 1,.done] ((ReB cell s l true n i m z G))=((decide (i<n)=true)∧(R (.tup [.nils 0 0,.int .i64 4]) (⟨.leaf,0,G⟩))):=by kernel_rfl
theorem rBe:Obl P 20 (fun v h=>R v h) 0 _K [.run 7,.know 19 false,.run 47,.can 0 [] [2,3] [],.run 1,.done] ((ReB cell s l true n i m z G))=((decide (i<n)=false)∧(R (.tup [.nils 0 0,.int .i64 4]) (⟨.leaf,0,G⟩))):=by kernel_rfl
theorem rBl:Obl P 20 (fun v h=>R v h) 0 _K [.run 7,.know 19 false,.run 35,.know 49 true,.run 12,.can 0 [] [2,3] [],.run 1,.done] ((ReB cell s l false n i m z G))=((decide (i<n)=false)∧((!l==([]:List UInt8))=true)∧(R (.tup [.nils 0 0,.int .i64 4]) (⟨.leaf,0,G⟩))):=by kernel_rfl
end
theorem rBq (R:AV→AHeap→Prop)(cell:Nat→AV)(s t:List UInt8)(n i:Int)(m z:Nat)(G:T (T AV))(_K:AM→Prop):Obl P 20 (fun v h=>R v h) 0 _K [.run 7,.know 19 false,.run 37,.callh [(1,0,[])] [0] (.str t) ⟨(.node .leaf (some (.cells (.fn fun j=>some (cell j)) z 35 0 0 1 0 false .leaf)) .leaf),1,G⟩,.run 4,.know 54 false,.run 8,.can 0 [1] [2,3] [],.run 1,.done] ((ReB cell s [] false n i m z G))=((decide (i<n)=false)∧(za fun j=>some (cell j))∧(za fun j=>some (cell j))∧(Goal P 1 15 (fun v h=>v=AV.str t∧h={ objs:=T.leaf.node (some (AObj.cells (T.fn fun j=>some (cell j)) z 35 0 0 1 0 false T.leaf)) T.leaf,next:=1,glob:=G }) (ze P 15 [.slg 0 0 0 m 0] ⟨(.node .leaf (some (.cells (.fn fun j=>some (cell j)) z 35 0 0 1 0 false .leaf)) .leaf),1,G⟩))∧((!t==s)=false)∧(za fun j=>some (cell j))∧(R (.tup [.slg 0 0 0 m 0,.int .i64 0]) (⟨(.node .leaf (some (.cells (.fn fun j=>some (cell j)) z 35 0 0 1 0 false .leaf)) .leaf),1,G⟩))):=by kernel_rfl
theorem rBw (R:AV→AHeap→Prop)(cell:Nat→AV)(s t:List UInt8)(n i:Int)(m z:Nat)(G:T (T AV))(_K:AM→Prop):Obl P 20 (fun v h=>R v h) 0 _K [.run 7,.know 19 false,.run 37,.callh [(1,0,[])] [0] (.str t) ⟨(.node .leaf (some (.cells (.fn fun j=>some (cell j)) z 35 0 0 1 0 false .leaf)) .leaf),1,G⟩,.run 4,.know 54 true,.run 6,.can 0 [] [2,3] [],.run 1,.done] ((ReB cell s [] false n i m z G))=((decide (i<n)=false)∧(za fun j=>some (cell j))∧(za fun j=>some (cell j))∧(Goal P 1 15 (fun v h=>v=AV.str t∧h={ objs:=T.leaf.node (some (AObj.cells (T.fn fun j=>some (cell j)) z 35 0 0 1 0 false T.leaf)) T.leaf,next:=1,glob:=G }) (ze P 15 [.slg 0 0 0 m 0] ⟨(.node .leaf (some (.cells (.fn fun j=>some (cell j)) z 35 0 0 1 0 false .leaf)) .leaf),1,G⟩))∧((!t==s)=true)∧(R (.tup [.nils 0 0,.int .i64 4]) (⟨.leaf,0,G⟩))):=by kernel_rfl
theorem rz60 (R:AV→AHeap→Prop)(b:Bool)(G:T (T AV))(_K:AM→Prop):Obl P 60 (fun v h=>R v h) 1 _K [.run 45,.done] ((ze P 60 [.ptr 0 0 0] (RH [] b G)))=((R (.int .u64 0) ((RH [] true G)))):=by kernel_rfl
theorem zme (l:List UInt8)(hl:l.length≤100000):∃ p l2 b2,Goal P 1 62 (fun v H=>v=.str p∧H=RH l2 b2 GW) (ze P 62 [.ptr 0 0 0] (RH l false GW))∧(b2=true→l2=[])∧(b2=false→l2.length+1≤l.length):=by
 cases hp:xf l with
 | none=>exact ⟨[],[],true,jX l hl (.inl hp),fun _=>rfl,fun h=>by cases h⟩
 | some r =>
  obtain ⟨n,k⟩:=r
  obtain ⟨p0,p1,p2,p3,p4⟩:=zM hp
  have q:=zL n
  by_cases h:n≤((l.length - k:Nat):Int)
  · exact ⟨_,_,false,zbX l hl hp h,fun h=>by (cases h),fun _=>by rw [List.length_drop]; omega⟩
  · exact ⟨[],[],true,jX l hl (.inr ⟨n,k,hp,by omega⟩),fun _=>rfl,fun h=>by cases h⟩
theorem zdF (l:List UInt8)(b:Bool)(hb:b=true→l=[]):∃ n l2 b2,Goal P 1 60 (fun v H=>v=.int .u64 n∧H=RH l2 b2 GW) (ze P 60 [.ptr 0 0 0] (RH l b GW))∧(b2=true→l2=[])∧(b2=false→b=false∧l2.length+1≤l.length):=by
 cases b with
 | true =>
  obtain rfl:=hb rfl
  exact ⟨0,[],true,(og (rz60 _ (true) GW _).symm ⟨rfl,rfl⟩),fun _=>rfl,fun h=>by cases h⟩
 | false =>
  cases hp:xf l with
  | none=>exact ⟨0,[],true,zfp l hp,fun _=>rfl,fun h=>by cases h⟩
  | some r =>
   obtain ⟨n,k⟩:=r
   obtain ⟨p0,p1,p2,p3,p4⟩:=zM hp
   have q:=zL n
   exact ⟨n,_,false,ju l hp,fun h=>by (cases h),fun _=>⟨rfl,by rw [List.length_drop]; omega⟩⟩
abbrev zmn (m:AM):Prop:=Goal P 0 20 (fun v h=>v=.tup [.nils 0 0,.int .i64 4]∧h=⟨.leaf,0,GW⟩) m
section
variable {s:List UInt8}
theorem zm4 {n i:Int}(l:List UInt8):zmn (ReA s l true n i GW):=by
 by_cases hi:i<n
 · exact (og (rAb _ (s) (l) (n) (i) GW _).symm ⟨decide_eq_true hi,rfl,rfl⟩)
 · exact (og (rAe _ (s) (l) (n) (i) GW _).symm ⟨decide_eq_false hi,rfl,rfl⟩)
theorem zhP {n i:Int}{m z:Nat}{f:Nat→Dg}(l:List UInt8):zmn (ReB (el f) s l true n i m z GW):=by
 by_cases hi:i<n
 · exact (og (rBb _ (el f) (s) (l) (n) (i) (m) (z) GW _).symm ⟨decide_eq_true hi,rfl,rfl⟩)
 · exact (og (rBe _ (el f) (s) (l) (n) (i) (m) (z) GW _).symm ⟨decide_eq_false hi,rfl,rfl⟩)
theorem zpi (hs:s.length≤100000)(hno:∀ l,So l l→zp l≠s){n:Int}(x:Nat):∀ (l:List UInt8) (m z:Nat) (i:Int) (f:Nat→Dg),l.length=x→0<m→z=m*3→m*3+x≤s.length→zmn (ReB (el f) s l false n i m z GW):=by
 induction x using Nat.strongRecOn with
 | _ x ih =>
  intro l m z i f hx hm hz hmx
  subst hz
  by_cases hi:i<n
  · obtain ⟨p,l2,b2,g1,u1,v1⟩:=zme l (by omega)
    obtain ⟨a1,l3,b3,g2,u2,v2⟩:=zdF l2 b2 u1
    obtain ⟨c1,l4,b4,g3,u3,v3⟩:=zdF l3 b3 u2
    by_cases ha:a1≥2147483648
    · exact (og (rBx _ (el f) _ _ _ _ _ _ _ _ _ _ _ _ _ _ _ _ GW _).symm ⟨decide_eq_true hi,rfl,g1,g2,g3,decide_eq_true ha,rfl,rfl⟩)
    · by_cases hc:c1 > 100
      · exact (og (rBy _ (el f) _ _ _ _ _ _ _ _ _ _ _ _ _ _ _ _ GW _).symm ⟨decide_eq_true hi,rfl,g1,g2,g3,decide_eq_false ha,decide_eq_true hc,rfl,rfl⟩)
      · have hnext:zmn (ReB (el (upd f m (p,IntKind.i64.wrap a1,IntKind.i64.wrap c1))) s l4 b4 n (IntKind.u64.wrap (i+1)) (m+1) (0+m*3+3) GW):=by
         cases hb4:b4 with
         | true=>exact zhP l4
         | false =>
          obtain ⟨w1,w2⟩:=v3 hb4
          obtain ⟨w3,w4⟩:=v2 w1
          have w5:=v1 w3
          exact ih l4.length (by omega) l4 (m+1) _ _ _ rfl (by omega) (by omega) (by omega)
        exact (og (rBg _ (el f) (el (upd f m (p,IntKind.i64.wrap a1,IntKind.i64.wrap c1))) _ _ _ _ _ _ _ _ _ _ _ _ _ _ _ _ _ GW _).symm ⟨decide_eq_true hi,rfl,g1,g2,g3,decide_eq_false ha,decide_eq_false hc,⟨⟨by rw [yM]; omega,fun k hk=>by
         rw [yM] at hk
         have hr:k=0∨k=1∨k=2:=by omega
         rcases hr with h | h | h <;> subst h <;> exact ⟨_,rfl,rfl⟩⟩,by omega,by omega,by omega,by omega,by
          unfold xz
          rw [Bool.and_eq_true,Nat.ble_eq,Nat.blt_eq]
          constructor <;> omega,by omega⟩,zdX f m p (IntKind.i64.wrap a1) (IntKind.i64.wrap c1) yM,rfl,zh _,hnext⟩)
  · by_cases h0:l=[]
    · subst h0
      obtain ⟨l',hl⟩:=zp9 f m (by omega)
      exact (og (rBw _ (el f) _ (zp l') _ _ _ _ GW _).symm ⟨decide_eq_false hi,zh _,zh _,zhW (z:=m*3) (Nat.le_refl _) (by omega) hl,neT (hno l' hl.self),rfl,rfl⟩)
    · exact (og (rBl _ (el f) _ _ _ _ _ _ GW _).symm ⟨decide_eq_false hi,neT h0,rfl,rfl⟩)
theorem zpB (hs:s.length≤100000)(hno:∀ l,So l l→zp l≠s){n:Int}(l:List UInt8)(b:Bool)(hb:b=true→l=[])(hl:l.length≤s.length):zmn (ReA s l b n 0 GW):=by
 cases b with
 | true=>exact zm4 l
 | false =>
  by_cases hi:(0:Int)<n
  · obtain ⟨p,l2,b2,g1,u1,v1⟩:=zme l (by omega)
    obtain ⟨a1,l3,b3,g2,u2,v2⟩:=zdF l2 b2 u1
    obtain ⟨c1,l4,b4,g3,u3,v3⟩:=zdF l3 b3 u2
    by_cases ha:a1≥2147483648
    · exact (og (rAx _ _ _ _ _ _ _ _ _ _ _ _ _ _ _ GW _).symm ⟨decide_eq_true hi,rfl,g1,g2,g3,decide_eq_true ha,rfl,rfl⟩)
    · by_cases hc:c1 > 100
      · exact (og (rAy _ _ _ _ _ _ _ _ _ _ _ _ _ _ _ GW _).symm ⟨decide_eq_true hi,rfl,g1,g2,g3,decide_eq_false ha,decide_eq_true hc,rfl,rfl⟩)
      · have hnext:zmn (ReB (el (fun _=>(p,IntKind.i64.wrap a1,IntKind.i64.wrap c1))) s l4 b4 n (IntKind.u64.wrap (0+1)) 1 3 GW):=by
         cases hb4:b4 with
         | true=>exact zhP l4
         | false =>
          obtain ⟨w1,w2⟩:=v3 hb4
          obtain ⟨w3,w4⟩:=v2 w1
          have w5:=v1 w3
          exact zpi hs hno l4.length l4 1 _ _ _ rfl (by omega) (by omega) (by omega)
        exact (og (rAg _ (el (fun _=>(p,IntKind.i64.wrap a1,IntKind.i64.wrap c1))) _ _ _ _ _ _ _ _ _ _ _ _ _ _ (3) GW _).symm ⟨decide_eq_true hi,rfl,g1,g2,g3,decide_eq_false ha,decide_eq_false hc,zbP _ _ _,rfl,zh _,hnext⟩)
  · by_cases h0:l=[]
    · subst h0
      exact (og (rAw _ _ (zp []) _ _ GW _).symm ⟨decide_eq_false hi,zf0,neT (hno [] ⟨.nil,by simp⟩),rfl,rfl⟩)
    · exact (og (rAl _ _ _ _ _ GW _).symm ⟨decide_eq_false hi,neT h0,rfl,rfl⟩)
theorem zc3 (hs:s.length≤100000)(hno:∀ l,So l l→zp l≠s):zmn (zb P 20 [.str s] GW):=by
 obtain ⟨n,l2,b2,g,u,v⟩:=zdF s false (by intro h; cases h)
 have hl:l2.length≤s.length:=by
  cases b2 with
  | true=>rw [u rfl]; simp
  | false=>have:=(v rfl).2; omega
 exact (og (r0 _ _ _ _ _ GW _).symm ⟨g,zpB hs hno l2 b2 u hl⟩)
theorem zd7 {l:List UInt8}(hl:l.length≤100000){d:Dg}(hd:vL d=true){rest:List UInt8}(ha:l=one d++rest) :
 ∃ l2 l3,Goal P 1 62 (fun v H=>v=.str d.1∧H=RH l2 false GW) (ze P 62 [.ptr 0 0 0] (RH l false GW)) ∧
  Goal P 1 60 (fun v H=>v=.int .u64 d.2.1∧H=RH l3 false GW) (ze P 60 [.ptr 0 0 0] (RH l2 false GW)) ∧
  Goal P 1 60 (fun v H=>v=.int .u64 d.2.2∧H=RH rest false GW) (ze P 60 [.ptr 0 0 0] (RH l3 false GW)):=by
 have hb:=of_decide_eq_true hd
 rw [zmv hd] at ha
 simp only [List.append_assoc] at ha
 have hp:xf l=some (((d.1.length:Nat):Int),(row ((d.1.length:Nat):Int)).length):=by
  rw [ha]
  exact xp _ (by omega) (by omega) _
 have hle:((d.1.length:Nat):Int)≤((l.length - (row ((d.1.length:Nat):Int)).length:Nat):Int):=by
  have:=congrArg List.length ha
  simp only [List.length_append] at this
  omega
 have g1:=zbX l hl hp hle
 have e1:(l.drop (row ((d.1.length:Nat):Int)).length).take ((d.1.length:Nat):Int).toNat=d.1:=by
  rw [ha,zU,Int.toNat_natCast,zaa]
 have e2:l.drop ((row ((d.1.length:Nat):Int)).length+((d.1.length:Nat):Int).toNat)=row d.2.1++(row d.2.2++rest):=by
  rw [← List.drop_drop,ha,zU,Int.toNat_natCast,zU]
 rw [e1,e2] at g1
 have g2:=ju _ (xp d.2.1 (by omega) (by omega) (row d.2.2++rest))
 rw [zU] at g2
 have g3:=ju _ (xp d.2.2 (by omega) (by omega) rest)
 rw [zU] at g3
 exact ⟨_,_,g1,g2,g3⟩
theorem zpZ (hs:s.length≤100000){ms:List Dg}(hm:So ms ms)(he:zp ms=s){g:Nat→Dg}{M:Nat}(hg:sl g 0 M=ms):∀ (r m z:Nat) (l:List UInt8) (f:Nat→Dg),m+r=M→0<m→z=m*3→(∀ t,t<m→f t=g t)→l.length≤s.length→l=(sl g m r).flatMap one →
 ∃ f',sl f' 0 M=ms∧Goal P 0 20 (fun v h=>v=.tup [.slg 0 0 0 M 0,.int .i64 0]∧h=HCo f' 0 (M*3)) (ReB (el f) s l false M m m z GW)
 | 0,m,z,l,f,hr,h0,hz,hf,hx,ha=>by
  obtain rfl:m=M:=by omega
  subst hz
  obtain rfl:l=[]:=ha
  have hM:=vQ ms
  rw [he,← hg,xO] at hM
  have hf':sl f 0 m=ms:=by rw [← hg]; exact xR m 0 fun t _ h=>hf t (by omega)
  have hso:So (sl f 0 m) ms:=by rw [hf']; exact hm
  exact ⟨f,hf',(og (rBq _ (el f) _ (zp ms) _ _ _ _ GW _).symm ⟨decide_eq_false (by omega),zh _,zh _,zhW (z:=m*3) (Nat.le_refl _) (by omega) hso,neF he,zh _,rfl,rfl⟩)⟩
 | r+1,m,z,l,f,hr,h0,hz,hf,hx,ha=>by
  subst hz
  have hM:=vQ ms
  rw [he,← hg,xO] at hM
  have hd:vL (g m)=true:=((hm.2 (g m)).1 (by rw [← hg]; exact vU g M 0 m (by omega) (by omega))).2
  have hb:=of_decide_eq_true hd
  rw [jc,List.flatMap_cons] at ha
  have hlen:=congrArg List.length ha
  rw [List.length_append] at hlen
  obtain ⟨l2,l3,g1,g2,g3⟩:=zd7 (by omega) hd ha
  obtain ⟨f',q1,q2⟩:=zpZ hs hm he hg r (m+1) (0+m*3+3) _ (upd f m (g m)) (by omega) (by omega) (by omega) (fun t ht=>by
   unfold upd
   by_cases h:t=m
   · rw [if_pos h,h]
   · rw [if_neg h]; exact hf t (by omega)) (by omega) rfl
  have w1:IntKind.i64.wrap (g m).2.1=(g m).2.1:=IntWalk.i64_in _ (by omega)
  have w2:IntKind.i64.wrap (g m).2.2=(g m).2.2:=IntWalk.i64_in _ (by omega)
  refine ⟨f',q1,(og (rBg _ (el f) (el (upd f m (g m))) _ _ _ _ _ _ _ _ _ _ _ _ _ _ _ _ _ GW _).symm ⟨decide_eq_true (by omega),rfl,g1,g2,g3,decide_eq_false (by omega),decide_eq_false (by omega),⟨⟨by rw [yM]; omega,fun k hk=>by
   rw [yM] at hk
   have hr:k=0∨k=1∨k=2:=by omega
   rcases hr with h | h | h <;> subst h <;> exact ⟨_,rfl,rfl⟩⟩,by omega,by omega,by omega,by omega,by
    unfold xz
    rw [Bool.and_eq_true,Nat.ble_eq,Nat.blt_eq]
    constructor <;> omega,by omega⟩,by rw [w1,w2]; exact zdX f m (g m).1 (g m).2.1 (g m).2.2 yM,rfl,zh _,by rw [zoo m (by omega)]; exact q2⟩)⟩
theorem zcn (hs:s.length≤100000){ms:List Dg}(hm:So ms ms)(he:zp ms=s) :
 (ms=[]∧Goal P 0 20 (fun v h=>v=.tup [.nils 0 0,.int .i64 0]∧h=⟨.leaf,0,GW⟩) (zb P 20 [.str s] GW)) ∨
  (0<ms.length∧∃ f',sl f' 0 ms.length=ms∧Goal P 0 20 (fun v h=>v=.tup [.slg 0 0 0 ms.length 0,.int .i64 0]∧h=HCo f' 0 (ms.length*3)) (zb P 20 [.str s] GW)):=by
 have hM:=vQ ms
 rw [he] at hM
 have hse:s=row (ms.length:Nat)++ms.flatMap one:=by rw [← he]; unfold zp; rw [List.nil_append]
 have hp:xf s=some (((ms.length:Nat):Int),(row (ms.length:Nat)).length):=by
  rw [hse]
  exact xp _ (by omega) (by omega) _
 have g0:=ju s hp
 have e0:s.drop (row (ms.length:Nat)).length=ms.flatMap one:=by
  conv=>lhs; rw [hse]
  exact zU _ _
 rw [e0] at g0
 by_cases h0:ms=[]
 · subst h0
   exact .inl ⟨rfl,(og (r0 _ _ _ _ _ GW _).symm ⟨g0,(og (rAq _ _ (zp []) _ _ GW _).symm ⟨decide_eq_false (by decide),zf0,neF he,rfl,rfl⟩)⟩)⟩
 · have hpos:0<ms.length:=List.length_pos_iff.2 h0
   refine .inr ⟨hpos,?_⟩
   obtain ⟨M,hMM⟩:∃ M,ms.length=M+1:=⟨ms.length - 1,by omega⟩
   have hg:sl (fun i=>ms.getD i zd) 0 (M+1)=ms:=by
    refine List.ext_getElem? fun i=>?_
    by_cases hi:i<M+1
    · rw [wB _ _ _ _ hi,Nat.zero_add,List.getD_eq_getElem?_getD,List.getElem?_eq_getElem (by omega)]
      rfl
    · rw [List.getElem?_eq_none (by rw [xO]; omega),List.getElem?_eq_none (by omega)]
   generalize hgd:(fun i=>ms.getD i zd)=g at hg
   have hd:vL (g 0)=true:=((hm.2 (g 0)).1 (by rw [← hg]; exact vU g (M+1) 0 0 (by omega) (by omega))).2
   have hb:=of_decide_eq_true hd
   have hl0:(ms.flatMap one).length≤s.length:=by rw [hse,List.length_append]; omega
   have ha':ms.flatMap one=one (g 0)++(sl g 1 M).flatMap one:=by
    rw [← List.flatMap_cons,← jc,hg]
   have hlen:=congrArg List.length ha'
   rw [List.length_append] at hlen
   obtain ⟨l2,l3,g1,g2,g3⟩:=zd7 (by omega) hd ha'
   obtain ⟨f',q1,q2⟩:=zpZ hs hm he hg M 1 3 _ (fun _=>g 0) (by omega) (by omega) (by omega) (fun t ht=>by
    obtain rfl:t=0:=by omega
    rfl) (by omega) rfl
   rw [← hMM] at q1 q2
   have w1:IntKind.i64.wrap (g 0).2.1=(g 0).2.1:=IntWalk.i64_in _ (by omega)
   have w2:IntKind.i64.wrap (g 0).2.2=(g 0).2.2:=IntWalk.i64_in _ (by omega)
   exact ⟨f',q1,(og (r0 _ _ _ _ _ GW _).symm ⟨g0,(og (rAg _ (el (fun _=>g 0)) _ _ _ _ _ _ _ _ _ _ _ _ _ _ (3) GW _).symm ⟨decide_eq_true (show (0:Int)<((ms.length:Nat):Int) by omega),rfl,g1,g2,g3,decide_eq_false (by omega),decide_eq_false (by omega),by rw [w1,w2]; exact zbP (g 0).1 (g 0).2.1 (g 0).2.2,rfl,zh _,q2⟩)⟩)⟩
end
end Go.Proofs.YtdbfpjgnlfejmaaDoor.dg
end
section
set_option maxRecDepth 100000
set_option linter.unusedVariables false
namespace Go.Proofs.YtdbfpjgnlfejmaaDoor.dg
open Go Ev mq
def St (s:List UInt8) (x y:Nat):Prop:=x≤s.length∧(0<x→y+x=s.length)
theorem st0 (s:List UInt8):St s s.length 0:=⟨Nat.le_refl _,fun _=>by omega⟩
theorem kK (s:List UInt8):mq.ahead s s.length=s:=by unfold mq.ahead; rw [Nat.sub_self]; rfl
theorem zao (s:List UInt8):mq.ahead s 0=[]:=by unfold mq.ahead; rw [Nat.sub_zero]; exact List.drop_length
theorem ym {s:List UInt8}{x y:Nat}(h:St s x y):(mq.ahead s x).length=x:=zm h.1
section
variable {s:List UInt8} (hs:s.length≤200000) {x y c:Nat}
include hs
theorem vq (h:St s x y)(hc:x≤c) :
 (∃ n x1 y1,Goal P 2 55 (fun v H=>v=.int .u64 n∧H=RG s y1 x1 x1 GW) (ze P 55 [.ptr 0 0 0] (RG s y x c GW))∧St s x1 y1∧0≤n∧n≤18446744073709551615∧mq.ahead s x=row n++mq.ahead s x1) ∨
  Goal P 2 55 (fun v H=>v=.int .u64 0∧H=RZ s GW) (ze P 55 [.ptr 0 0 0] (RG s y x c GW)):=by
 have hx:=h.1
 cases hp:xf (mq.ahead s x) with
 | none=>exact .inr (zcM s y x c hx h.2 hc (by omega) hp)
 | some r =>
  obtain ⟨n,k⟩:=r
  obtain ⟨y1,e,g⟩:=zcy s y x c hx h.2 hc (by omega) hp
  obtain ⟨p0,p1,p2,p3,_⟩:=zM hp
  rw [zm hx] at p3
  exact .inl ⟨n,x - k,y1,g,⟨by omega,e⟩,p0,p1,by rw [xG p3 hx,p2,List.take_append_drop]⟩
theorem yV (h:St s x y)(hc:x≤c) :
 (∃ t x1 y1,Goal P 2 56 (fun v H=>v=.str t∧H=RG s y1 x1 x1 GW) (ze P 56 [.ptr 0 0 0] (RG s y x c GW))∧St s x1 y1∧mq.ahead s x=row (t.length:Nat)++(t++mq.ahead s x1)) ∨
  Goal P 2 56 (fun v H=>v=.str []∧H=RZ s GW) (ze P 56 [.ptr 0 0 0] (RG s y x c GW)):=by
 have hx:=h.1
 cases hp:xf (mq.ahead s x) with
 | none=>exact .inr (ky s y x c hx h.2 hc (by omega) (.inl hp))
 | some r =>
  obtain ⟨n,k⟩:=r
  by_cases hn:n≤((x - k:Nat):Int)
  · obtain ⟨y1,e,g⟩:=kj s y x c hx h.2 hc (by omega) hp hn
    obtain ⟨p0,p1,p2,p3,_⟩:=zM hp
    rw [zm hx] at p3
    have hlen:(((mq.ahead s x).drop k).take n.toNat).length=n.toNat:=by
     rw [List.length_take,List.length_drop,zm hx]
     omega
    refine .inl ⟨_,_,y1,g,⟨by omega,e⟩,?_⟩
    rw [hlen,show ((n.toNat:Nat):Int)=n by omega,xG (x:=x - k) (by omega) (by omega),xG p3 hx,List.take_append_drop,p2,List.take_append_drop]
  · exact .inr (ky s y x c hx h.2 hc (by omega) (.inr ⟨n,k,hp,by omega⟩))
theorem zeg (h:St s x y)(hc:x≤c){n:Int}(h0:0≤n)(h1:n≤18446744073709551615){rest:List UInt8}(ha:mq.ahead s x=row n++rest) :
 ∃ x1 y1,Goal P 2 55 (fun v H=>v=.int .u64 n∧H=RG s y1 x1 x1 GW) (ze P 55 [.ptr 0 0 0] (RG s y x c GW))∧St s x1 y1∧mq.ahead s x1=rest:=by
 have hx:=h.1
 have hp:=xp n h0 h1 rest
 rw [← ha] at hp
 have hl:=zm hx
 rw [ha,List.length_append] at hl
 obtain ⟨y1,e,g⟩:=zcy s y x c hx h.2 hc (by omega) hp
 exact ⟨_,y1,g,⟨by omega,e⟩,by rw [xG (by omega) hx,ha,zU]⟩
theorem wr (h:St s x y)(hc:x≤c){t rest:List UInt8}(ha:mq.ahead s x=row (t.length:Nat)++(t++rest)) :
 ∃ x1 y1,Goal P 2 56 (fun v H=>v=.str t∧H=RG s y1 x1 x1 GW) (ze P 56 [.ptr 0 0 0] (RG s y x c GW))∧St s x1 y1∧mq.ahead s x1=rest:=by
 have hx:=h.1
 have hl:=zm hx
 rw [ha] at hl
 simp only [List.length_append] at hl
 have hp:=xp (t.length:Nat) (by omega) (by omega) (t++rest)
 rw [← ha] at hp
 obtain ⟨y1,e,g⟩:=kj s y x c hx h.2 hc (by omega) hp (by omega)
 have e1:((mq.ahead s x).drop (row (t.length:Nat)).length).take ((t.length:Nat):Int).toNat=t:=by
  rw [ha,zU,Int.toNat_natCast,zaa]
 rw [e1] at g
 exact ⟨_,y1,g,⟨by omega,e⟩,by rw [xG (by rw [Int.toNat_natCast]; omega) (by omega),xG (by omega) hx,ha,zU,Int.toNat_natCast,zU]⟩
end
theorem zcr:Goal P 1 55 (fun v H=>v=.int .u64 0∧H=RB GW) (ze P 55 [.ptr 0 0 0] (RB GW)) :=
 (og (nnz _ GW _).symm ⟨rfl,rfl⟩)
theorem qW:Goal P 1 56 (fun v H=>v=.str []∧H=RB GW) (ze P 56 [.ptr 0 0 0] (RB GW)) :=
 (og (txz _ GW _).symm ⟨rfl,rfl⟩)
end Go.Proofs.YtdbfpjgnlfejmaaDoor.dg
end
section
set_option maxRecDepth 100000
namespace Go.Proofs.YtdbfpjgnlfejmaaDoor.mq
open Go Ev
def zbO (A B C:Nat) (a b c:List UInt8):Int :=
 if (A=0∧a.length≠0)∨(B=0∧b.length≠0)∨(C=0∧c.length≠0) then 2 else if a.length > A∨b.length > B∨c.length > C then 3 else 0
def limA (k:Int):Nat:=if k=1 then 0 else 64
def limB (k:Int):Nat:=if k=3∨k=4∨k=5∨k=6∨k=9 then 200 else 0
def limC (k:Int):Nat:=if k=1∨k=3∨k=5∨k=9 then 5000 else 0
def chk (k:Int) (a b c:List UInt8):Int:=if k<1∨9<k then 2 else zbO (limA k) (limB k) (limC k) a b c
theorem zby {A B C:Nat}{a b c:List UInt8}(h:(A=0∧a.length≠0)∨(B=0∧b.length≠0)∨(C=0∧c.length≠0)):zbO A B C a b c=2:=if_pos h
theorem xv {A B C:Nat}{a b c:List UInt8}(h:¬((A=0∧a.length≠0)∨(B=0∧b.length≠0)∨(C=0∧c.length≠0)))(h3:a.length > A∨b.length > B∨c.length > C):zbO A B C a b c=3:=by
 unfold zbO
 rw [if_neg h,if_pos h3]
theorem jM {A B C:Nat}{a b c:List UInt8}(h:¬((A=0∧a.length≠0)∨(B=0∧b.length≠0)∨(C=0∧c.length≠0)))(h3:¬(a.length > A∨b.length > B∨c.length > C)):zbO A B C a b c=0:=by
 unfold zbO
 rw [if_neg h,if_neg h3]
theorem neT {a:List UInt8}(h:(!a==([]:List UInt8))=true):a.length≠0:=by
 rintro e
 rw [List.length_eq_zero_iff.1 e] at h
 cases h
theorem neF {a:List UInt8}(h:(!a==([]:List UInt8))=false):a.length=0:=by
 cases a with
 | nil=>rfl
 | cons x r=>cases h
end Go.Proofs.YtdbfpjgnlfejmaaDoor.mq
end
section
set_option maxRecDepth 100000
set_option linter.unusedVariables false
namespace Go.Proofs.YtdbfpjgnlfejmaaDoor.mq
open Go Ev
theorem G6 {r:Int}{cmds:List Cmd}{M:AM}{A:Prop}(e:Obl P 64 (fun v _=>v=AV.int .i64 r) 0 (fun _=>False) cmds M=A)(h:A):Goal P 0 64 (fun v _=>v=.int .i64 r) M:=(oh e.symm h)
theorem x2 {r:Int}(h:r=2):AV.int .i64 2=.int .i64 r:=h▸rfl
theorem x3 {r:Int}(h:r=3):AV.int .i64 3=.int .i64 r:=h▸rfl
section
variable {R:AV→Prop} {a b c:List UInt8} {_K:AM→Prop} {k:Int} (hk:k=1)
include hk
theorem ck1y:Obl P 64 (fun v _=>R v) 0 _K [.run 248,.know 7 true,.run 34,.done] ((zb P 64 [.agg [.int .i64 k,.str a,.str b,.str c]] GW))=(((!a==([]:List UInt8))=true)∧(R (.int .i64 2))):=by subst hk; kernel_rfl
theorem ck1ny:Obl P 64 (fun v _=>R v) 0 _K [.run 248,.know 7 false,.run 49,.know 7 true,.run 34,.done] ((zb P 64 [.agg [.int .i64 k,.str a,.str b,.str c]] GW))=(((!a==([]:List UInt8))=false)∧((!b==([]:List UInt8))=true)∧(R (.int .i64 2))):=by subst hk; kernel_rfl
theorem zno:Obl P 64 (fun v _=>R v) 0 _K [.run 248,.know 7 false,.run 49,.know 7 false,.run 49,.know 7 true,.run 133,.know 18 true,.run 26,.done] ((zb P 64 [.agg [.int .i64 k,.str a,.str b,.str c]] GW))=(((!a==([]:List UInt8))=false)∧((!b==([]:List UInt8))=false)∧((!c==([]:List UInt8))=true)∧(decide ((↑a.length:Int) > (0:Int))=true)∧(R (.int .i64 3))):=by subst hk; kernel_rfl
theorem zlq:Obl P 64 (fun v _=>R v) 0 _K [.run 248,.know 7 false,.run 49,.know 7 false,.run 49,.know 7 true,.run 133,.know 18 false,.run 47,.know 18 true,.run 26,.done] ((zb P 64 [.agg [.int .i64 k,.str a,.str b,.str c]] GW))=(((!a==([]:List UInt8))=false)∧((!b==([]:List UInt8))=false)∧((!c==([]:List UInt8))=true)∧(decide ((↑a.length:Int) > (0:Int))=false)∧(decide ((↑b.length:Int) > (0:Int))=true)∧(R (.int .i64 3))):=by subst hk; kernel_rfl
theorem zks:Obl P 64 (fun v _=>R v) 0 _K [.run 248,.know 7 false,.run 49,.know 7 false,.run 49,.know 7 true,.run 133,.know 18 false,.run 47,.know 18 false,.run 47,.know 18 true,.run 26,.done] ((zb P 64 [.agg [.int .i64 k,.str a,.str b,.str c]] GW))=(((!a==([]:List UInt8))=false)∧((!b==([]:List UInt8))=false)∧((!c==([]:List UInt8))=true)∧(decide ((↑a.length:Int) > (0:Int))=false)∧(decide ((↑b.length:Int) > (0:Int))=false)∧(decide ((↑c.length:Int) > (5000:Int))=true)∧(R (.int .i64 3))):=by subst hk; kernel_rfl
theorem ziZ:Obl P 64 (fun v _=>R v) 0 _K [.run 248,.know 7 false,.run 49,.know 7 false,.run 49,.know 7 true,.run 133,.know 18 false,.run 47,.know 18 false,.run 47,.know 18 false,.run 52,.done] ((zb P 64 [.agg [.int .i64 k,.str a,.str b,.str c]] GW))=(((!a==([]:List UInt8))=false)∧((!b==([]:List UInt8))=false)∧((!c==([]:List UInt8))=true)∧(decide ((↑a.length:Int) > (0:Int))=false)∧(decide ((↑b.length:Int) > (0:Int))=false)∧(decide ((↑c.length:Int) > (5000:Int))=false)∧(R (.int .i64 0))):=by subst hk; kernel_rfl
theorem zn7:Obl P 64 (fun v _=>R v) 0 _K [.run 248,.know 7 false,.run 49,.know 7 false,.run 49,.know 7 false,.run 133,.know 18 true,.run 26,.done] ((zb P 64 [.agg [.int .i64 k,.str a,.str b,.str c]] GW))=(((!a==([]:List UInt8))=false)∧((!b==([]:List UInt8))=false)∧((!c==([]:List UInt8))=false)∧(decide ((↑a.length:Int) > (0:Int))=true)∧(R (.int .i64 3))):=by subst hk; kernel_rfl
theorem zlT:Obl P 64 (fun v _=>R v) 0 _K [.run 248,.know 7 false,.run 49,.know 7 false,.run 49,.know 7 false,.run 133,.know 18 false,.run 47,.know 18 true,.run 26,.done] ((zb P 64 [.agg [.int .i64 k,.str a,.str b,.str c]] GW))=(((!a==([]:List UInt8))=false)∧((!b==([]:List UInt8))=false)∧((!c==([]:List UInt8))=false)∧(decide ((↑a.length:Int) > (0:Int))=false)∧(decide ((↑b.length:Int) > (0:Int))=true)∧(R (.int .i64 3))):=by subst hk; kernel_rfl
theorem zjv:Obl P 64 (fun v _=>R v) 0 _K [.run 248,.know 7 false,.run 49,.know 7 false,.run 49,.know 7 false,.run 133,.know 18 false,.run 47,.know 18 false,.run 47,.know 18 true,.run 26,.done] ((zb P 64 [.agg [.int .i64 k,.str a,.str b,.str c]] GW))=(((!a==([]:List UInt8))=false)∧((!b==([]:List UInt8))=false)∧((!c==([]:List UInt8))=false)∧(decide ((↑a.length:Int) > (0:Int))=false)∧(decide ((↑b.length:Int) > (0:Int))=false)∧(decide ((↑c.length:Int) > (5000:Int))=true)∧(R (.int .i64 3))):=by subst hk; kernel_rfl
theorem zjE:Obl P 64 (fun v _=>R v) 0 _K [.run 248,.know 7 false,.run 49,.know 7 false,.run 49,.know 7 false,.run 133,.know 18 false,.run 47,.know 18 false,.run 47,.know 18 false,.run 52,.done] ((zb P 64 [.agg [.int .i64 k,.str a,.str b,.str c]] GW))=(((!a==([]:List UInt8))=false)∧((!b==([]:List UInt8))=false)∧((!c==([]:List UInt8))=false)∧(decide ((↑a.length:Int) > (0:Int))=false)∧(decide ((↑b.length:Int) > (0:Int))=false)∧(decide ((↑c.length:Int) > (5000:Int))=false)∧(R (.int .i64 0))):=by subst hk; kernel_rfl
theorem zo5:Goal P 0 64 (fun v _=>v=.int .i64 (zbO 0 0 5000 a b c)) (zb P 64 [.agg [.int .i64 k,.str a,.str b,.str c]] GW):=by
 cases h0:((!a==([]:List UInt8))) with
 | true =>
  have g0:=neT h0; exact G6 (ck1y hk) ⟨h0,x2 (zby (by omega))⟩
 | false =>
  cases h1:((!b==([]:List UInt8))) with
  | true =>
   have g0:=neF h0; have g1:=neT h1; exact G6 (ck1ny hk) ⟨h0,h1,x2 (zby (by omega))⟩
  | false =>
   cases h2:((!c==([]:List UInt8))) with
   | true =>
    cases h3:(decide ((↑a.length:Int) > (0:Int))) with
    | true =>
     have g0:=neF h0; have g1:=neF h1; have g2:=neT h2; have g3:=of_decide_eq_true h3; exact G6 (zno hk) ⟨h0,h1,h2,h3,x3 (xv (by omega) (by omega))⟩
    | false =>
     cases h4:(decide ((↑b.length:Int) > (0:Int))) with
     | true =>
      have g0:=neF h0; have g1:=neF h1; have g2:=neT h2; have g3:=of_decide_eq_false h3; have g4:=of_decide_eq_true h4; exact G6 (zlq hk) ⟨h0,h1,h2,h3,h4,x3 (xv (by omega) (by omega))⟩
     | false =>
      cases h5:(decide ((↑c.length:Int) > (5000:Int))) with
      | true =>
       have g0:=neF h0; have g1:=neF h1; have g2:=neT h2; have g3:=of_decide_eq_false h3; have g4:=of_decide_eq_false h4; have g5:=of_decide_eq_true h5; exact G6 (zks hk) ⟨h0,h1,h2,h3,h4,h5,x3 (xv (by omega) (by omega))⟩
      | false =>
       have g0:=neF h0; have g1:=neF h1; have g2:=neT h2; have g3:=of_decide_eq_false h3; have g4:=of_decide_eq_false h4; have g5:=of_decide_eq_false h5; exact G6 (ziZ hk) ⟨h0,h1,h2,h3,h4,h5,congrArg (AV.int .i64) (jM (by omega) (by omega)).symm⟩
   | false =>
    cases h3:(decide ((↑a.length:Int) > (0:Int))) with
    | true =>
     have g0:=neF h0; have g1:=neF h1; have g2:=neF h2; have g3:=of_decide_eq_true h3; exact G6 (zn7 hk) ⟨h0,h1,h2,h3,x3 (xv (by omega) (by omega))⟩
    | false =>
     cases h4:(decide ((↑b.length:Int) > (0:Int))) with
     | true =>
      have g0:=neF h0; have g1:=neF h1; have g2:=neF h2; have g3:=of_decide_eq_false h3; have g4:=of_decide_eq_true h4; exact G6 (zlT hk) ⟨h0,h1,h2,h3,h4,x3 (xv (by omega) (by omega))⟩
     | false =>
      cases h5:(decide ((↑c.length:Int) > (5000:Int))) with
      | true =>
       have g0:=neF h0; have g1:=neF h1; have g2:=neF h2; have g3:=of_decide_eq_false h3; have g4:=of_decide_eq_false h4; have g5:=of_decide_eq_true h5; exact G6 (zjv hk) ⟨h0,h1,h2,h3,h4,h5,x3 (xv (by omega) (by omega))⟩
      | false =>
       have g0:=neF h0; have g1:=neF h1; have g2:=neF h2; have g3:=of_decide_eq_false h3; have g4:=of_decide_eq_false h4; have g5:=of_decide_eq_false h5; exact G6 (zjE hk) ⟨h0,h1,h2,h3,h4,h5,congrArg (AV.int .i64) (jM (by omega) (by omega)).symm⟩
end
section
variable {R:AV→Prop} {a b c:List UInt8} {_K:AM→Prop} {k:Int} (hk:k=2∨k=7∨k=8)
include hk
theorem ck2yy:Obl P 64 (fun v _=>R v) 0 _K [.run 248,.know 7 true,.run 49,.know 7 true,.run 34,.done] ((zb P 64 [.agg [.int .i64 k,.str a,.str b,.str c]] GW))=(((!a==([]:List UInt8))=true)∧((!b==([]:List UInt8))=true)∧(R (.int .i64 2))):=by rcases hk with rfl | rfl | rfl <;> kernel_rfl
theorem zo7:Obl P 64 (fun v _=>R v) 0 _K [.run 248,.know 7 true,.run 49,.know 7 false,.run 49,.know 7 true,.run 34,.done] ((zb P 64 [.agg [.int .i64 k,.str a,.str b,.str c]] GW))=(((!a==([]:List UInt8))=true)∧((!b==([]:List UInt8))=false)∧((!c==([]:List UInt8))=true)∧(R (.int .i64 2))):=by rcases hk with rfl | rfl | rfl <;> kernel_rfl
theorem znI:Obl P 64 (fun v _=>R v) 0 _K [.run 248,.know 7 true,.run 49,.know 7 false,.run 49,.know 7 false,.run 133,.know 18 true,.run 26,.done] ((zb P 64 [.agg [.int .i64 k,.str a,.str b,.str c]] GW))=(((!a==([]:List UInt8))=true)∧((!b==([]:List UInt8))=false)∧((!c==([]:List UInt8))=false)∧(decide ((↑a.length:Int) > (64:Int))=true)∧(R (.int .i64 3))):=by rcases hk with rfl | rfl | rfl <;> kernel_rfl
theorem zlH:Obl P 64 (fun v _=>R v) 0 _K [.run 248,.know 7 true,.run 49,.know 7 false,.run 49,.know 7 false,.run 133,.know 18 false,.run 47,.know 18 true,.run 26,.done] ((zb P 64 [.agg [.int .i64 k,.str a,.str b,.str c]] GW))=(((!a==([]:List UInt8))=true)∧((!b==([]:List UInt8))=false)∧((!c==([]:List UInt8))=false)∧(decide ((↑a.length:Int) > (64:Int))=false)∧(decide ((↑b.length:Int) > (0:Int))=true)∧(R (.int .i64 3))):=by rcases hk with rfl | rfl | rfl <;> kernel_rfl
theorem zh9:Obl P 64 (fun v _=>R v) 0 _K [.run 248,.know 7 true,.run 49,.know 7 false,.run 49,.know 7 false,.run 133,.know 18 false,.run 47,.know 18 false,.run 47,.know 18 true,.run 26,.done] ((zb P 64 [.agg [.int .i64 k,.str a,.str b,.str c]] GW))=(((!a==([]:List UInt8))=true)∧((!b==([]:List UInt8))=false)∧((!c==([]:List UInt8))=false)∧(decide ((↑a.length:Int) > (64:Int))=false)∧(decide ((↑b.length:Int) > (0:Int))=false)∧(decide ((↑c.length:Int) > (0:Int))=true)∧(R (.int .i64 3))):=by rcases hk with rfl | rfl | rfl <;> kernel_rfl
theorem zhY:Obl P 64 (fun v _=>R v) 0 _K [.run 248,.know 7 true,.run 49,.know 7 false,.run 49,.know 7 false,.run 133,.know 18 false,.run 47,.know 18 false,.run 47,.know 18 false,.run 52,.done] ((zb P 64 [.agg [.int .i64 k,.str a,.str b,.str c]] GW))=(((!a==([]:List UInt8))=true)∧((!b==([]:List UInt8))=false)∧((!c==([]:List UInt8))=false)∧(decide ((↑a.length:Int) > (64:Int))=false)∧(decide ((↑b.length:Int) > (0:Int))=false)∧(decide ((↑c.length:Int) > (0:Int))=false)∧(R (.int .i64 0))):=by rcases hk with rfl | rfl | rfl <;> kernel_rfl
theorem ck2ny:Obl P 64 (fun v _=>R v) 0 _K [.run 248,.know 7 false,.run 49,.know 7 true,.run 34,.done] ((zb P 64 [.agg [.int .i64 k,.str a,.str b,.str c]] GW))=(((!a==([]:List UInt8))=false)∧((!b==([]:List UInt8))=true)∧(R (.int .i64 2))):=by rcases hk with rfl | rfl | rfl <;> kernel_rfl
theorem zoP:Obl P 64 (fun v _=>R v) 0 _K [.run 248,.know 7 false,.run 49,.know 7 false,.run 49,.know 7 true,.run 34,.done] ((zb P 64 [.agg [.int .i64 k,.str a,.str b,.str c]] GW))=(((!a==([]:List UInt8))=false)∧((!b==([]:List UInt8))=false)∧((!c==([]:List UInt8))=true)∧(R (.int .i64 2))):=by rcases hk with rfl | rfl | rfl <;> kernel_rfl
theorem zm5:Obl P 64 (fun v _=>R v) 0 _K [.run 248,.know 7 false,.run 49,.know 7 false,.run 49,.know 7 false,.run 133,.know 18 true,.run 26,.done] ((zb P 64 [.agg [.int .i64 k,.str a,.str b,.str c]] GW))=(((!a==([]:List UInt8))=false)∧((!b==([]:List UInt8))=false)∧((!c==([]:List UInt8))=false)∧(decide ((↑a.length:Int) > (64:Int))=true)∧(R (.int .i64 3))):=by rcases hk with rfl | rfl | rfl <;> kernel_rfl
theorem zlK:Obl P 64 (fun v _=>R v) 0 _K [.run 248,.know 7 false,.run 49,.know 7 false,.run 49,.know 7 false,.run 133,.know 18 false,.run 47,.know 18 true,.run 26,.done] ((zb P 64 [.agg [.int .i64 k,.str a,.str b,.str c]] GW))=(((!a==([]:List UInt8))=false)∧((!b==([]:List UInt8))=false)∧((!c==([]:List UInt8))=false)∧(decide ((↑a.length:Int) > (64:Int))=false)∧(decide ((↑b.length:Int) > (0:Int))=true)∧(R (.int .i64 3))):=by rcases hk with rfl | rfl | rfl <;> kernel_rfl
theorem zid:Obl P 64 (fun v _=>R v) 0 _K [.run 248,.know 7 false,.run 49,.know 7 false,.run 49,.know 7 false,.run 133,.know 18 false,.run 47,.know 18 false,.run 47,.know 18 true,.run 26,.done] ((zb P 64 [.agg [.int .i64 k,.str a,.str b,.str c]] GW))=(((!a==([]:List UInt8))=false)∧((!b==([]:List UInt8))=false)∧((!c==([]:List UInt8))=false)∧(decide ((↑a.length:Int) > (64:Int))=false)∧(decide ((↑b.length:Int) > (0:Int))=false)∧(decide ((↑c.length:Int) > (0:Int))=true)∧(R (.int .i64 3))):=by rcases hk with rfl | rfl | rfl <;> kernel_rfl
theorem zjf:Obl P 64 (fun v _=>R v) 0 _K [.run 248,.know 7 false,.run 49,.know 7 false,.run 49,.know 7 false,.run 133,.know 18 false,.run 47,.know 18 false,.run 47,.know 18 false,.run 52,.done] ((zb P 64 [.agg [.int .i64 k,.str a,.str b,.str c]] GW))=(((!a==([]:List UInt8))=false)∧((!b==([]:List UInt8))=false)∧((!c==([]:List UInt8))=false)∧(decide ((↑a.length:Int) > (64:Int))=false)∧(decide ((↑b.length:Int) > (0:Int))=false)∧(decide ((↑c.length:Int) > (0:Int))=false)∧(R (.int .i64 0))):=by rcases hk with rfl | rfl | rfl <;> kernel_rfl
theorem zi0:Goal P 0 64 (fun v _=>v=.int .i64 (zbO 64 0 0 a b c)) (zb P 64 [.agg [.int .i64 k,.str a,.str b,.str c]] GW):=by
 cases h0:((!a==([]:List UInt8))) with
 | true =>
  cases h1:((!b==([]:List UInt8))) with
  | true =>
   have g0:=neT h0; have g1:=neT h1; exact G6 (ck2yy hk) ⟨h0,h1,x2 (zby (by omega))⟩
  | false =>
   cases h2:((!c==([]:List UInt8))) with
   | true =>
    have g0:=neT h0; have g1:=neF h1; have g2:=neT h2; exact G6 (zo7 hk) ⟨h0,h1,h2,x2 (zby (by omega))⟩
   | false =>
    cases h3:(decide ((↑a.length:Int) > (64:Int))) with
    | true =>
     have g0:=neT h0; have g1:=neF h1; have g2:=neF h2; have g3:=of_decide_eq_true h3; exact G6 (znI hk) ⟨h0,h1,h2,h3,x3 (xv (by omega) (by omega))⟩
    | false =>
     cases h4:(decide ((↑b.length:Int) > (0:Int))) with
     | true =>
      have g0:=neT h0; have g1:=neF h1; have g2:=neF h2; have g3:=of_decide_eq_false h3; have g4:=of_decide_eq_true h4; exact G6 (zlH hk) ⟨h0,h1,h2,h3,h4,x3 (xv (by omega) (by omega))⟩
     | false =>
      cases h5:(decide ((↑c.length:Int) > (0:Int))) with
      | true =>
       have g0:=neT h0; have g1:=neF h1; have g2:=neF h2; have g3:=of_decide_eq_false h3; have g4:=of_decide_eq_false h4; have g5:=of_decide_eq_true h5; exact G6 (zh9 hk) ⟨h0,h1,h2,h3,h4,h5,x3 (xv (by omega) (by omega))⟩
      | false =>
       have g0:=neT h0; have g1:=neF h1; have g2:=neF h2; have g3:=of_decide_eq_false h3; have g4:=of_decide_eq_false h4; have g5:=of_decide_eq_false h5; exact G6 (zhY hk) ⟨h0,h1,h2,h3,h4,h5,congrArg (AV.int .i64) (jM (by omega) (by omega)).symm⟩
 | false =>
  cases h1:((!b==([]:List UInt8))) with
  | true =>
   have g0:=neF h0; have g1:=neT h1; exact G6 (ck2ny hk) ⟨h0,h1,x2 (zby (by omega))⟩
  | false =>
   cases h2:((!c==([]:List UInt8))) with
   | true =>
    have g0:=neF h0; have g1:=neF h1; have g2:=neT h2; exact G6 (zoP hk) ⟨h0,h1,h2,x2 (zby (by omega))⟩
   | false =>
    cases h3:(decide ((↑a.length:Int) > (64:Int))) with
    | true =>
     have g0:=neF h0; have g1:=neF h1; have g2:=neF h2; have g3:=of_decide_eq_true h3; exact G6 (zm5 hk) ⟨h0,h1,h2,h3,x3 (xv (by omega) (by omega))⟩
    | false =>
     cases h4:(decide ((↑b.length:Int) > (0:Int))) with
     | true =>
      have g0:=neF h0; have g1:=neF h1; have g2:=neF h2; have g3:=of_decide_eq_false h3; have g4:=of_decide_eq_true h4; exact G6 (zlK hk) ⟨h0,h1,h2,h3,h4,x3 (xv (by omega) (by omega))⟩
     | false =>
      cases h5:(decide ((↑c.length:Int) > (0:Int))) with
      | true =>
       have g0:=neF h0; have g1:=neF h1; have g2:=neF h2; have g3:=of_decide_eq_false h3; have g4:=of_decide_eq_false h4; have g5:=of_decide_eq_true h5; exact G6 (zid hk) ⟨h0,h1,h2,h3,h4,h5,x3 (xv (by omega) (by omega))⟩
      | false =>
       have g0:=neF h0; have g1:=neF h1; have g2:=neF h2; have g3:=of_decide_eq_false h3; have g4:=of_decide_eq_false h4; have g5:=of_decide_eq_false h5; exact G6 (zjf hk) ⟨h0,h1,h2,h3,h4,h5,congrArg (AV.int .i64) (jM (by omega) (by omega)).symm⟩
end
section
variable {R:AV→Prop} {a b c:List UInt8} {_K:AM→Prop} {k:Int} (hk:k=3∨k=5∨k=9)
include hk
theorem znn:Obl P 64 (fun v _=>R v) 0 _K [.run 248,.know 7 true,.run 49,.know 7 true,.run 49,.know 7 true,.run 133,.know 18 true,.run 26,.done] ((zb P 64 [.agg [.int .i64 k,.str a,.str b,.str c]] GW))=(((!a==([]:List UInt8))=true)∧((!b==([]:List UInt8))=true)∧((!c==([]:List UInt8))=true)∧(decide ((↑a.length:Int) > (64:Int))=true)∧(R (.int .i64 3))):=by rcases hk with rfl | rfl | rfl <;> kernel_rfl
theorem zkD:Obl P 64 (fun v _=>R v) 0 _K [.run 248,.know 7 true,.run 49,.know 7 true,.run 49,.know 7 true,.run 133,.know 18 false,.run 47,.know 18 true,.run 26,.done] ((zb P 64 [.agg [.int .i64 k,.str a,.str b,.str c]] GW))=(((!a==([]:List UInt8))=true)∧((!b==([]:List UInt8))=true)∧((!c==([]:List UInt8))=true)∧(decide ((↑a.length:Int) > (64:Int))=false)∧(decide ((↑b.length:Int) > (200:Int))=true)∧(R (.int .i64 3))):=by rcases hk with rfl | rfl | rfl <;> kernel_rfl
theorem zjn:Obl P 64 (fun v _=>R v) 0 _K [.run 248,.know 7 true,.run 49,.know 7 true,.run 49,.know 7 true,.run 133,.know 18 false,.run 47,.know 18 false,.run 47,.know 18 true,.run 26,.done] ((zb P 64 [.agg [.int .i64 k,.str a,.str b,.str c]] GW))=(((!a==([]:List UInt8))=true)∧((!b==([]:List UInt8))=true)∧((!c==([]:List UInt8))=true)∧(decide ((↑a.length:Int) > (64:Int))=false)∧(decide ((↑b.length:Int) > (200:Int))=false)∧(decide ((↑c.length:Int) > (5000:Int))=true)∧(R (.int .i64 3))):=by rcases hk with rfl | rfl | rfl <;> kernel_rfl
theorem zhF:Obl P 64 (fun v _=>R v) 0 _K [.run 248,.know 7 true,.run 49,.know 7 true,.run 49,.know 7 true,.run 133,.know 18 false,.run 47,.know 18 false,.run 47,.know 18 false,.run 52,.done] ((zb P 64 [.agg [.int .i64 k,.str a,.str b,.str c]] GW))=(((!a==([]:List UInt8))=true)∧((!b==([]:List UInt8))=true)∧((!c==([]:List UInt8))=true)∧(decide ((↑a.length:Int) > (64:Int))=false)∧(decide ((↑b.length:Int) > (200:Int))=false)∧(decide ((↑c.length:Int) > (5000:Int))=false)∧(R (.int .i64 0))):=by rcases hk with rfl | rfl | rfl <;> kernel_rfl
theorem zn0:Obl P 64 (fun v _=>R v) 0 _K [.run 248,.know 7 true,.run 49,.know 7 true,.run 49,.know 7 false,.run 133,.know 18 true,.run 26,.done] ((zb P 64 [.agg [.int .i64 k,.str a,.str b,.str c]] GW))=(((!a==([]:List UInt8))=true)∧((!b==([]:List UInt8))=true)∧((!c==([]:List UInt8))=false)∧(decide ((↑a.length:Int) > (64:Int))=true)∧(R (.int .i64 3))):=by rcases hk with rfl | rfl | rfl <;> kernel_rfl
theorem zlX:Obl P 64 (fun v _=>R v) 0 _K [.run 248,.know 7 true,.run 49,.know 7 true,.run 49,.know 7 false,.run 133,.know 18 false,.run 47,.know 18 true,.run 26,.done] ((zb P 64 [.agg [.int .i64 k,.str a,.str b,.str c]] GW))=(((!a==([]:List UInt8))=true)∧((!b==([]:List UInt8))=true)∧((!c==([]:List UInt8))=false)∧(decide ((↑a.length:Int) > (64:Int))=false)∧(decide ((↑b.length:Int) > (200:Int))=true)∧(R (.int .i64 3))):=by rcases hk with rfl | rfl | rfl <;> kernel_rfl
theorem zhD:Obl P 64 (fun v _=>R v) 0 _K [.run 248,.know 7 true,.run 49,.know 7 true,.run 49,.know 7 false,.run 133,.know 18 false,.run 47,.know 18 false,.run 47,.know 18 true,.run 26,.done] ((zb P 64 [.agg [.int .i64 k,.str a,.str b,.str c]] GW))=(((!a==([]:List UInt8))=true)∧((!b==([]:List UInt8))=true)∧((!c==([]:List UInt8))=false)∧(decide ((↑a.length:Int) > (64:Int))=false)∧(decide ((↑b.length:Int) > (200:Int))=false)∧(decide ((↑c.length:Int) > (5000:Int))=true)∧(R (.int .i64 3))):=by rcases hk with rfl | rfl | rfl <;> kernel_rfl
theorem zhT:Obl P 64 (fun v _=>R v) 0 _K [.run 248,.know 7 true,.run 49,.know 7 true,.run 49,.know 7 false,.run 133,.know 18 false,.run 47,.know 18 false,.run 47,.know 18 false,.run 52,.done] ((zb P 64 [.agg [.int .i64 k,.str a,.str b,.str c]] GW))=(((!a==([]:List UInt8))=true)∧((!b==([]:List UInt8))=true)∧((!c==([]:List UInt8))=false)∧(decide ((↑a.length:Int) > (64:Int))=false)∧(decide ((↑b.length:Int) > (200:Int))=false)∧(decide ((↑c.length:Int) > (5000:Int))=false)∧(R (.int .i64 0))):=by rcases hk with rfl | rfl | rfl <;> kernel_rfl
theorem zmO:Obl P 64 (fun v _=>R v) 0 _K [.run 248,.know 7 true,.run 49,.know 7 false,.run 49,.know 7 true,.run 133,.know 18 true,.run 26,.done] ((zb P 64 [.agg [.int .i64 k,.str a,.str b,.str c]] GW))=(((!a==([]:List UInt8))=true)∧((!b==([]:List UInt8))=false)∧((!c==([]:List UInt8))=true)∧(decide ((↑a.length:Int) > (64:Int))=true)∧(R (.int .i64 3))):=by rcases hk with rfl | rfl | rfl <;> kernel_rfl
theorem zlJ:Obl P 64 (fun v _=>R v) 0 _K [.run 248,.know 7 true,.run 49,.know 7 false,.run 49,.know 7 true,.run 133,.know 18 false,.run 47,.know 18 true,.run 26,.done] ((zb P 64 [.agg [.int .i64 k,.str a,.str b,.str c]] GW))=(((!a==([]:List UInt8))=true)∧((!b==([]:List UInt8))=false)∧((!c==([]:List UInt8))=true)∧(decide ((↑a.length:Int) > (64:Int))=false)∧(decide ((↑b.length:Int) > (200:Int))=true)∧(R (.int .i64 3))):=by rcases hk with rfl | rfl | rfl <;> kernel_rfl
theorem zhE:Obl P 64 (fun v _=>R v) 0 _K [.run 248,.know 7 true,.run 49,.know 7 false,.run 49,.know 7 true,.run 133,.know 18 false,.run 47,.know 18 false,.run 47,.know 18 true,.run 26,.done] ((zb P 64 [.agg [.int .i64 k,.str a,.str b,.str c]] GW))=(((!a==([]:List UInt8))=true)∧((!b==([]:List UInt8))=false)∧((!c==([]:List UInt8))=true)∧(decide ((↑a.length:Int) > (64:Int))=false)∧(decide ((↑b.length:Int) > (200:Int))=false)∧(decide ((↑c.length:Int) > (5000:Int))=true)∧(R (.int .i64 3))):=by rcases hk with rfl | rfl | rfl <;> kernel_rfl
theorem ziK:Obl P 64 (fun v _=>R v) 0 _K [.run 248,.know 7 true,.run 49,.know 7 false,.run 49,.know 7 true,.run 133,.know 18 false,.run 47,.know 18 false,.run 47,.know 18 false,.run 52,.done] ((zb P 64 [.agg [.int .i64 k,.str a,.str b,.str c]] GW))=(((!a==([]:List UInt8))=true)∧((!b==([]:List UInt8))=false)∧((!c==([]:List UInt8))=true)∧(decide ((↑a.length:Int) > (64:Int))=false)∧(decide ((↑b.length:Int) > (200:Int))=false)∧(decide ((↑c.length:Int) > (5000:Int))=false)∧(R (.int .i64 0))):=by rcases hk with rfl | rfl | rfl <;> kernel_rfl
theorem zod:Obl P 64 (fun v _=>R v) 0 _K [.run 248,.know 7 true,.run 49,.know 7 false,.run 49,.know 7 false,.run 133,.know 18 true,.run 26,.done] ((zb P 64 [.agg [.int .i64 k,.str a,.str b,.str c]] GW))=(((!a==([]:List UInt8))=true)∧((!b==([]:List UInt8))=false)∧((!c==([]:List UInt8))=false)∧(decide ((↑a.length:Int) > (64:Int))=true)∧(R (.int .i64 3))):=by rcases hk with rfl | rfl | rfl <;> kernel_rfl
theorem zkV:Obl P 64 (fun v _=>R v) 0 _K [.run 248,.know 7 true,.run 49,.know 7 false,.run 49,.know 7 false,.run 133,.know 18 false,.run 47,.know 18 true,.run 26,.done] ((zb P 64 [.agg [.int .i64 k,.str a,.str b,.str c]] GW))=(((!a==([]:List UInt8))=true)∧((!b==([]:List UInt8))=false)∧((!c==([]:List UInt8))=false)∧(decide ((↑a.length:Int) > (64:Int))=false)∧(decide ((↑b.length:Int) > (200:Int))=true)∧(R (.int .i64 3))):=by rcases hk with rfl | rfl | rfl <;> kernel_rfl
theorem zjO:Obl P 64 (fun v _=>R v) 0 _K [.run 248,.know 7 true,.run 49,.know 7 false,.run 49,.know 7 false,.run 133,.know 18 false,.run 47,.know 18 false,.run 47,.know 18 true,.run 26,.done] ((zb P 64 [.agg [.int .i64 k,.str a,.str b,.str c]] GW))=(((!a==([]:List UInt8))=true)∧((!b==([]:List UInt8))=false)∧((!c==([]:List UInt8))=false)∧(decide ((↑a.length:Int) > (64:Int))=false)∧(decide ((↑b.length:Int) > (200:Int))=false)∧(decide ((↑c.length:Int) > (5000:Int))=true)∧(R (.int .i64 3))):=by rcases hk with rfl | rfl | rfl <;> kernel_rfl
theorem ziU:Obl P 64 (fun v _=>R v) 0 _K [.run 248,.know 7 true,.run 49,.know 7 false,.run 49,.know 7 false,.run 133,.know 18 false,.run 47,.know 18 false,.run 47,.know 18 false,.run 52,.done] ((zb P 64 [.agg [.int .i64 k,.str a,.str b,.str c]] GW))=(((!a==([]:List UInt8))=true)∧((!b==([]:List UInt8))=false)∧((!c==([]:List UInt8))=false)∧(decide ((↑a.length:Int) > (64:Int))=false)∧(decide ((↑b.length:Int) > (200:Int))=false)∧(decide ((↑c.length:Int) > (5000:Int))=false)∧(R (.int .i64 0))):=by rcases hk with rfl | rfl | rfl <;> kernel_rfl
theorem znZ:Obl P 64 (fun v _=>R v) 0 _K [.run 248,.know 7 false,.run 49,.know 7 true,.run 49,.know 7 true,.run 133,.know 18 true,.run 26,.done] ((zb P 64 [.agg [.int .i64 k,.str a,.str b,.str c]] GW))=(((!a==([]:List UInt8))=false)∧((!b==([]:List UInt8))=true)∧((!c==([]:List UInt8))=true)∧(decide ((↑a.length:Int) > (64:Int))=true)∧(R (.int .i64 3))):=by rcases hk with rfl | rfl | rfl <;> kernel_rfl
theorem zla:Obl P 64 (fun v _=>R v) 0 _K [.run 248,.know 7 false,.run 49,.know 7 true,.run 49,.know 7 true,.run 133,.know 18 false,.run 47,.know 18 true,.run 26,.done] ((zb P 64 [.agg [.int .i64 k,.str a,.str b,.str c]] GW))=(((!a==([]:List UInt8))=false)∧((!b==([]:List UInt8))=true)∧((!c==([]:List UInt8))=true)∧(decide ((↑a.length:Int) > (64:Int))=false)∧(decide ((↑b.length:Int) > (200:Int))=true)∧(R (.int .i64 3))):=by rcases hk with rfl | rfl | rfl <;> kernel_rfl
theorem zh6:Obl P 64 (fun v _=>R v) 0 _K [.run 248,.know 7 false,.run 49,.know 7 true,.run 49,.know 7 true,.run 133,.know 18 false,.run 47,.know 18 false,.run 47,.know 18 true,.run 26,.done] ((zb P 64 [.agg [.int .i64 k,.str a,.str b,.str c]] GW))=(((!a==([]:List UInt8))=false)∧((!b==([]:List UInt8))=true)∧((!c==([]:List UInt8))=true)∧(decide ((↑a.length:Int) > (64:Int))=false)∧(decide ((↑b.length:Int) > (200:Int))=false)∧(decide ((↑c.length:Int) > (5000:Int))=true)∧(R (.int .i64 3))):=by rcases hk with rfl | rfl | rfl <;> kernel_rfl
theorem ziJ:Obl P 64 (fun v _=>R v) 0 _K [.run 248,.know 7 false,.run 49,.know 7 true,.run 49,.know 7 true,.run 133,.know 18 false,.run 47,.know 18 false,.run 47,.know 18 false,.run 52,.done] ((zb P 64 [.agg [.int .i64 k,.str a,.str b,.str c]] GW))=(((!a==([]:List UInt8))=false)∧((!b==([]:List UInt8))=true)∧((!c==([]:List UInt8))=true)∧(decide ((↑a.length:Int) > (64:Int))=false)∧(decide ((↑b.length:Int) > (200:Int))=false)∧(decide ((↑c.length:Int) > (5000:Int))=false)∧(R (.int .i64 0))):=by rcases hk with rfl | rfl | rfl <;> kernel_rfl
theorem znv:Obl P 64 (fun v _=>R v) 0 _K [.run 248,.know 7 false,.run 49,.know 7 true,.run 49,.know 7 false,.run 133,.know 18 true,.run 26,.done] ((zb P 64 [.agg [.int .i64 k,.str a,.str b,.str c]] GW))=(((!a==([]:List UInt8))=false)∧((!b==([]:List UInt8))=true)∧((!c==([]:List UInt8))=false)∧(decide ((↑a.length:Int) > (64:Int))=true)∧(R (.int .i64 3))):=by rcases hk with rfl | rfl | rfl <;> kernel_rfl
theorem zls:Obl P 64 (fun v _=>R v) 0 _K [.run 248,.know 7 false,.run 49,.know 7 true,.run 49,.know 7 false,.run 133,.know 18 false,.run 47,.know 18 true,.run 26,.done] ((zb P 64 [.agg [.int .i64 k,.str a,.str b,.str c]] GW))=(((!a==([]:List UInt8))=false)∧((!b==([]:List UInt8))=true)∧((!c==([]:List UInt8))=false)∧(decide ((↑a.length:Int) > (64:Int))=false)∧(decide ((↑b.length:Int) > (200:Int))=true)∧(R (.int .i64 3))):=by rcases hk with rfl | rfl | rfl <;> kernel_rfl
theorem zkk:Obl P 64 (fun v _=>R v) 0 _K [.run 248,.know 7 false,.run 49,.know 7 true,.run 49,.know 7 false,.run 133,.know 18 false,.run 47,.know 18 false,.run 47,.know 18 true,.run 26,.done] ((zb P 64 [.agg [.int .i64 k,.str a,.str b,.str c]] GW))=(((!a==([]:List UInt8))=false)∧((!b==([]:List UInt8))=true)∧((!c==([]:List UInt8))=false)∧(decide ((↑a.length:Int) > (64:Int))=false)∧(decide ((↑b.length:Int) > (200:Int))=false)∧(decide ((↑c.length:Int) > (5000:Int))=true)∧(R (.int .i64 3))):=by rcases hk with rfl | rfl | rfl <;> kernel_rfl
theorem zhR:Obl P 64 (fun v _=>R v) 0 _K [.run 248,.know 7 false,.run 49,.know 7 true,.run 49,.know 7 false,.run 133,.know 18 false,.run 47,.know 18 false,.run 47,.know 18 false,.run 52,.done] ((zb P 64 [.agg [.int .i64 k,.str a,.str b,.str c]] GW))=(((!a==([]:List UInt8))=false)∧((!b==([]:List UInt8))=true)∧((!c==([]:List UInt8))=false)∧(decide ((↑a.length:Int) > (64:Int))=false)∧(decide ((↑b.length:Int) > (200:Int))=false)∧(decide ((↑c.length:Int) > (5000:Int))=false)∧(R (.int .i64 0))):=by rcases hk with rfl | rfl | rfl <;> kernel_rfl
theorem znC:Obl P 64 (fun v _=>R v) 0 _K [.run 248,.know 7 false,.run 49,.know 7 false,.run 49,.know 7 true,.run 133,.know 18 true,.run 26,.done] ((zb P 64 [.agg [.int .i64 k,.str a,.str b,.str c]] GW))=(((!a==([]:List UInt8))=false)∧((!b==([]:List UInt8))=false)∧((!c==([]:List UInt8))=true)∧(decide ((↑a.length:Int) > (64:Int))=true)∧(R (.int .i64 3))):=by rcases hk with rfl | rfl | rfl <;> kernel_rfl
theorem zkQ:Obl P 64 (fun v _=>R v) 0 _K [.run 248,.know 7 false,.run 49,.know 7 false,.run 49,.know 7 true,.run 133,.know 18 false,.run 47,.know 18 true,.run 26,.done] ((zb P 64 [.agg [.int .i64 k,.str a,.str b,.str c]] GW))=(((!a==([]:List UInt8))=false)∧((!b==([]:List UInt8))=false)∧((!c==([]:List UInt8))=true)∧(decide ((↑a.length:Int) > (64:Int))=false)∧(decide ((↑b.length:Int) > (200:Int))=true)∧(R (.int .i64 3))):=by rcases hk with rfl | rfl | rfl <;> kernel_rfl
theorem zhQ:Obl P 64 (fun v _=>R v) 0 _K [.run 248,.know 7 false,.run 49,.know 7 false,.run 49,.know 7 true,.run 133,.know 18 false,.run 47,.know 18 false,.run 47,.know 18 true,.run 26,.done] ((zb P 64 [.agg [.int .i64 k,.str a,.str b,.str c]] GW))=(((!a==([]:List UInt8))=false)∧((!b==([]:List UInt8))=false)∧((!c==([]:List UInt8))=true)∧(decide ((↑a.length:Int) > (64:Int))=false)∧(decide ((↑b.length:Int) > (200:Int))=false)∧(decide ((↑c.length:Int) > (5000:Int))=true)∧(R (.int .i64 3))):=by rcases hk with rfl | rfl | rfl <;> kernel_rfl
theorem zil:Obl P 64 (fun v _=>R v) 0 _K [.run 248,.know 7 false,.run 49,.know 7 false,.run 49,.know 7 true,.run 133,.know 18 false,.run 47,.know 18 false,.run 47,.know 18 false,.run 52,.done] ((zb P 64 [.agg [.int .i64 k,.str a,.str b,.str c]] GW))=(((!a==([]:List UInt8))=false)∧((!b==([]:List UInt8))=false)∧((!c==([]:List UInt8))=true)∧(decide ((↑a.length:Int) > (64:Int))=false)∧(decide ((↑b.length:Int) > (200:Int))=false)∧(decide ((↑c.length:Int) > (5000:Int))=false)∧(R (.int .i64 0))):=by rcases hk with rfl | rfl | rfl <;> kernel_rfl
theorem zni:Obl P 64 (fun v _=>R v) 0 _K [.run 248,.know 7 false,.run 49,.know 7 false,.run 49,.know 7 false,.run 133,.know 18 true,.run 26,.done] ((zb P 64 [.agg [.int .i64 k,.str a,.str b,.str c]] GW))=(((!a==([]:List UInt8))=false)∧((!b==([]:List UInt8))=false)∧((!c==([]:List UInt8))=false)∧(decide ((↑a.length:Int) > (64:Int))=true)∧(R (.int .i64 3))):=by rcases hk with rfl | rfl | rfl <;> kernel_rfl
theorem zlZ:Obl P 64 (fun v _=>R v) 0 _K [.run 248,.know 7 false,.run 49,.know 7 false,.run 49,.know 7 false,.run 133,.know 18 false,.run 47,.know 18 true,.run 26,.done] ((zb P 64 [.agg [.int .i64 k,.str a,.str b,.str c]] GW))=(((!a==([]:List UInt8))=false)∧((!b==([]:List UInt8))=false)∧((!c==([]:List UInt8))=false)∧(decide ((↑a.length:Int) > (64:Int))=false)∧(decide ((↑b.length:Int) > (200:Int))=true)∧(R (.int .i64 3))):=by rcases hk with rfl | rfl | rfl <;> kernel_rfl
theorem zhx:Obl P 64 (fun v _=>R v) 0 _K [.run 248,.know 7 false,.run 49,.know 7 false,.run 49,.know 7 false,.run 133,.know 18 false,.run 47,.know 18 false,.run 47,.know 18 true,.run 26,.done] ((zb P 64 [.agg [.int .i64 k,.str a,.str b,.str c]] GW))=(((!a==([]:List UInt8))=false)∧((!b==([]:List UInt8))=false)∧((!c==([]:List UInt8))=false)∧(decide ((↑a.length:Int) > (64:Int))=false)∧(decide ((↑b.length:Int) > (200:Int))=false)∧(decide ((↑c.length:Int) > (5000:Int))=true)∧(R (.int .i64 3))):=by rcases hk with rfl | rfl | rfl <;> kernel_rfl
theorem ziu:Obl P 64 (fun v _=>R v) 0 _K [.run 248,.know 7 false,.run 49,.know 7 false,.run 49,.know 7 false,.run 133,.know 18 false,.run 47,.know 18 false,.run 47,.know 18 false,.run 52,.done] ((zb P 64 [.agg [.int .i64 k,.str a,.str b,.str c]] GW))=(((!a==([]:List UInt8))=false)∧((!b==([]:List UInt8))=false)∧((!c==([]:List UInt8))=false)∧(decide ((↑a.length:Int) > (64:Int))=false)∧(decide ((↑b.length:Int) > (200:Int))=false)∧(decide ((↑c.length:Int) > (5000:Int))=false)∧(R (.int .i64 0))):=by rcases hk with rfl | rfl | rfl <;> kernel_rfl
theorem zj1:Goal P 0 64 (fun v _=>v=.int .i64 (zbO 64 200 5000 a b c)) (zb P 64 [.agg [.int .i64 k,.str a,.str b,.str c]] GW):=by
 cases h0:((!a==([]:List UInt8))) with
 | true =>
  cases h1:((!b==([]:List UInt8))) with
  | true =>
   cases h2:((!c==([]:List UInt8))) with
   | true =>
    cases h3:(decide ((↑a.length:Int) > (64:Int))) with
    | true =>
     have g0:=neT h0; have g1:=neT h1; have g2:=neT h2; have g3:=of_decide_eq_true h3; exact G6 (znn hk) ⟨h0,h1,h2,h3,x3 (xv (by omega) (by omega))⟩
    | false =>
     cases h4:(decide ((↑b.length:Int) > (200:Int))) with
     | true =>
      have g0:=neT h0; have g1:=neT h1; have g2:=neT h2; have g3:=of_decide_eq_false h3; have g4:=of_decide_eq_true h4; exact G6 (zkD hk) ⟨h0,h1,h2,h3,h4,x3 (xv (by omega) (by omega))⟩
     | false =>
      cases h5:(decide ((↑c.length:Int) > (5000:Int))) with
      | true =>
       have g0:=neT h0; have g1:=neT h1; have g2:=neT h2; have g3:=of_decide_eq_false h3; have g4:=of_decide_eq_false h4; have g5:=of_decide_eq_true h5; exact G6 (zjn hk) ⟨h0,h1,h2,h3,h4,h5,x3 (xv (by omega) (by omega))⟩
      | false =>
       have g0:=neT h0; have g1:=neT h1; have g2:=neT h2; have g3:=of_decide_eq_false h3; have g4:=of_decide_eq_false h4; have g5:=of_decide_eq_false h5; exact G6 (zhF hk) ⟨h0,h1,h2,h3,h4,h5,congrArg (AV.int .i64) (jM (by omega) (by omega)).symm⟩
   | false =>
    cases h3:(decide ((↑a.length:Int) > (64:Int))) with
    | true =>
     have g0:=neT h0; have g1:=neT h1; have g2:=neF h2; have g3:=of_decide_eq_true h3; exact G6 (zn0 hk) ⟨h0,h1,h2,h3,x3 (xv (by omega) (by omega))⟩
    | false =>
     cases h4:(decide ((↑b.length:Int) > (200:Int))) with
     | true =>
      have g0:=neT h0; have g1:=neT h1; have g2:=neF h2; have g3:=of_decide_eq_false h3; have g4:=of_decide_eq_true h4; exact G6 (zlX hk) ⟨h0,h1,h2,h3,h4,x3 (xv (by omega) (by omega))⟩
     | false =>
      cases h5:(decide ((↑c.length:Int) > (5000:Int))) with
      | true =>
       have g0:=neT h0; have g1:=neT h1; have g2:=neF h2; have g3:=of_decide_eq_false h3; have g4:=of_decide_eq_false h4; have g5:=of_decide_eq_true h5; exact G6 (zhD hk) ⟨h0,h1,h2,h3,h4,h5,x3 (xv (by omega) (by omega))⟩
      | false =>
       have g0:=neT h0; have g1:=neT h1; have g2:=neF h2; have g3:=of_decide_eq_false h3; have g4:=of_decide_eq_false h4; have g5:=of_decide_eq_false h5; exact G6 (zhT hk) ⟨h0,h1,h2,h3,h4,h5,congrArg (AV.int .i64) (jM (by omega) (by omega)).symm⟩
  | false =>
   cases h2:((!c==([]:List UInt8))) with
   | true =>
    cases h3:(decide ((↑a.length:Int) > (64:Int))) with
    | true =>
     have g0:=neT h0; have g1:=neF h1; have g2:=neT h2; have g3:=of_decide_eq_true h3; exact G6 (zmO hk) ⟨h0,h1,h2,h3,x3 (xv (by omega) (by omega))⟩
    | false =>
     cases h4:(decide ((↑b.length:Int) > (200:Int))) with
     | true =>
      have g0:=neT h0; have g1:=neF h1; have g2:=neT h2; have g3:=of_decide_eq_false h3; have g4:=of_decide_eq_true h4; exact G6 (zlJ hk) ⟨h0,h1,h2,h3,h4,x3 (xv (by omega) (by omega))⟩
     | false =>
      cases h5:(decide ((↑c.length:Int) > (5000:Int))) with
      | true =>
       have g0:=neT h0; have g1:=neF h1; have g2:=neT h2; have g3:=of_decide_eq_false h3; have g4:=of_decide_eq_false h4; have g5:=of_decide_eq_true h5; exact G6 (zhE hk) ⟨h0,h1,h2,h3,h4,h5,x3 (xv (by omega) (by omega))⟩
      | false =>
       have g0:=neT h0; have g1:=neF h1; have g2:=neT h2; have g3:=of_decide_eq_false h3; have g4:=of_decide_eq_false h4; have g5:=of_decide_eq_false h5; exact G6 (ziK hk) ⟨h0,h1,h2,h3,h4,h5,congrArg (AV.int .i64) (jM (by omega) (by omega)).symm⟩
   | false =>
    cases h3:(decide ((↑a.length:Int) > (64:Int))) with
    | true =>
     have g0:=neT h0; have g1:=neF h1; have g2:=neF h2; have g3:=of_decide_eq_true h3; exact G6 (zod hk) ⟨h0,h1,h2,h3,x3 (xv (by omega) (by omega))⟩
    | false =>
     cases h4:(decide ((↑b.length:Int) > (200:Int))) with
     | true =>
      have g0:=neT h0; have g1:=neF h1; have g2:=neF h2; have g3:=of_decide_eq_false h3; have g4:=of_decide_eq_true h4; exact G6 (zkV hk) ⟨h0,h1,h2,h3,h4,x3 (xv (by omega) (by omega))⟩
     | false =>
      cases h5:(decide ((↑c.length:Int) > (5000:Int))) with
      | true =>
       have g0:=neT h0; have g1:=neF h1; have g2:=neF h2; have g3:=of_decide_eq_false h3; have g4:=of_decide_eq_false h4; have g5:=of_decide_eq_true h5; exact G6 (zjO hk) ⟨h0,h1,h2,h3,h4,h5,x3 (xv (by omega) (by omega))⟩
      | false =>
       have g0:=neT h0; have g1:=neF h1; have g2:=neF h2; have g3:=of_decide_eq_false h3; have g4:=of_decide_eq_false h4; have g5:=of_decide_eq_false h5; exact G6 (ziU hk) ⟨h0,h1,h2,h3,h4,h5,congrArg (AV.int .i64) (jM (by omega) (by omega)).symm⟩
 | false =>
  cases h1:((!b==([]:List UInt8))) with
  | true =>
   cases h2:((!c==([]:List UInt8))) with
   | true =>
    cases h3:(decide ((↑a.length:Int) > (64:Int))) with
    | true =>
     have g0:=neF h0; have g1:=neT h1; have g2:=neT h2; have g3:=of_decide_eq_true h3; exact G6 (znZ hk) ⟨h0,h1,h2,h3,x3 (xv (by omega) (by omega))⟩
    | false =>
     cases h4:(decide ((↑b.length:Int) > (200:Int))) with
     | true =>
      have g0:=neF h0; have g1:=neT h1; have g2:=neT h2; have g3:=of_decide_eq_false h3; have g4:=of_decide_eq_true h4; exact G6 (zla hk) ⟨h0,h1,h2,h3,h4,x3 (xv (by omega) (by omega))⟩
     | false =>
      cases h5:(decide ((↑c.length:Int) > (5000:Int))) with
      | true =>
       have g0:=neF h0; have g1:=neT h1; have g2:=neT h2; have g3:=of_decide_eq_false h3; have g4:=of_decide_eq_false h4; have g5:=of_decide_eq_true h5; exact G6 (zh6 hk) ⟨h0,h1,h2,h3,h4,h5,x3 (xv (by omega) (by omega))⟩
      | false =>
       have g0:=neF h0; have g1:=neT h1; have g2:=neT h2; have g3:=of_decide_eq_false h3; have g4:=of_decide_eq_false h4; have g5:=of_decide_eq_false h5; exact G6 (ziJ hk) ⟨h0,h1,h2,h3,h4,h5,congrArg (AV.int .i64) (jM (by omega) (by omega)).symm⟩
   | false =>
    cases h3:(decide ((↑a.length:Int) > (64:Int))) with
    | true =>
     have g0:=neF h0; have g1:=neT h1; have g2:=neF h2; have g3:=of_decide_eq_true h3; exact G6 (znv hk) ⟨h0,h1,h2,h3,x3 (xv (by omega) (by omega))⟩
    | false =>
     cases h4:(decide ((↑b.length:Int) > (200:Int))) with
     | true =>
      have g0:=neF h0; have g1:=neT h1; have g2:=neF h2; have g3:=of_decide_eq_false h3; have g4:=of_decide_eq_true h4; exact G6 (zls hk) ⟨h0,h1,h2,h3,h4,x3 (xv (by omega) (by omega))⟩
     | false =>
      cases h5:(decide ((↑c.length:Int) > (5000:Int))) with
      | true =>
       have g0:=neF h0; have g1:=neT h1; have g2:=neF h2; have g3:=of_decide_eq_false h3; have g4:=of_decide_eq_false h4; have g5:=of_decide_eq_true h5; exact G6 (zkk hk) ⟨h0,h1,h2,h3,h4,h5,x3 (xv (by omega) (by omega))⟩
      | false =>
       have g0:=neF h0; have g1:=neT h1; have g2:=neF h2; have g3:=of_decide_eq_false h3; have g4:=of_decide_eq_false h4; have g5:=of_decide_eq_false h5; exact G6 (zhR hk) ⟨h0,h1,h2,h3,h4,h5,congrArg (AV.int .i64) (jM (by omega) (by omega)).symm⟩
  | false =>
   cases h2:((!c==([]:List UInt8))) with
   | true =>
    cases h3:(decide ((↑a.length:Int) > (64:Int))) with
    | true =>
     have g0:=neF h0; have g1:=neF h1; have g2:=neT h2; have g3:=of_decide_eq_true h3; exact G6 (znC hk) ⟨h0,h1,h2,h3,x3 (xv (by omega) (by omega))⟩
    | false =>
     cases h4:(decide ((↑b.length:Int) > (200:Int))) with
     | true =>
      have g0:=neF h0; have g1:=neF h1; have g2:=neT h2; have g3:=of_decide_eq_false h3; have g4:=of_decide_eq_true h4; exact G6 (zkQ hk) ⟨h0,h1,h2,h3,h4,x3 (xv (by omega) (by omega))⟩
     | false =>
      cases h5:(decide ((↑c.length:Int) > (5000:Int))) with
      | true =>
       have g0:=neF h0; have g1:=neF h1; have g2:=neT h2; have g3:=of_decide_eq_false h3; have g4:=of_decide_eq_false h4; have g5:=of_decide_eq_true h5; exact G6 (zhQ hk) ⟨h0,h1,h2,h3,h4,h5,x3 (xv (by omega) (by omega))⟩
      | false =>
       have g0:=neF h0; have g1:=neF h1; have g2:=neT h2; have g3:=of_decide_eq_false h3; have g4:=of_decide_eq_false h4; have g5:=of_decide_eq_false h5; exact G6 (zil hk) ⟨h0,h1,h2,h3,h4,h5,congrArg (AV.int .i64) (jM (by omega) (by omega)).symm⟩
   | false =>
    cases h3:(decide ((↑a.length:Int) > (64:Int))) with
    | true =>
     have g0:=neF h0; have g1:=neF h1; have g2:=neF h2; have g3:=of_decide_eq_true h3; exact G6 (zni hk) ⟨h0,h1,h2,h3,x3 (xv (by omega) (by omega))⟩
    | false =>
     cases h4:(decide ((↑b.length:Int) > (200:Int))) with
     | true =>
      have g0:=neF h0; have g1:=neF h1; have g2:=neF h2; have g3:=of_decide_eq_false h3; have g4:=of_decide_eq_true h4; exact G6 (zlZ hk) ⟨h0,h1,h2,h3,h4,x3 (xv (by omega) (by omega))⟩
     | false =>
      cases h5:(decide ((↑c.length:Int) > (5000:Int))) with
      | true =>
       have g0:=neF h0; have g1:=neF h1; have g2:=neF h2; have g3:=of_decide_eq_false h3; have g4:=of_decide_eq_false h4; have g5:=of_decide_eq_true h5; exact G6 (zhx hk) ⟨h0,h1,h2,h3,h4,h5,x3 (xv (by omega) (by omega))⟩
      | false =>
       have g0:=neF h0; have g1:=neF h1; have g2:=neF h2; have g3:=of_decide_eq_false h3; have g4:=of_decide_eq_false h4; have g5:=of_decide_eq_false h5; exact G6 (ziu hk) ⟨h0,h1,h2,h3,h4,h5,congrArg (AV.int .i64) (jM (by omega) (by omega)).symm⟩
end
section
variable {R:AV→Prop} {a b c:List UInt8} {_K:AM→Prop} {k:Int} (hk:k=4∨k=6)
include hk
theorem zqa:Obl P 64 (fun v _=>R v) 0 _K [.run 248,.know 7 true,.run 49,.know 7 true,.run 49,.know 7 true,.run 34,.done] ((zb P 64 [.agg [.int .i64 k,.str a,.str b,.str c]] GW))=(((!a==([]:List UInt8))=true)∧((!b==([]:List UInt8))=true)∧((!c==([]:List UInt8))=true)∧(R (.int .i64 2))):=by rcases hk with rfl | rfl <;> kernel_rfl
theorem znf:Obl P 64 (fun v _=>R v) 0 _K [.run 248,.know 7 true,.run 49,.know 7 true,.run 49,.know 7 false,.run 133,.know 18 true,.run 26,.done] ((zb P 64 [.agg [.int .i64 k,.str a,.str b,.str c]] GW))=(((!a==([]:List UInt8))=true)∧((!b==([]:List UInt8))=true)∧((!c==([]:List UInt8))=false)∧(decide ((↑a.length:Int) > (64:Int))=true)∧(R (.int .i64 3))):=by rcases hk with rfl | rfl <;> kernel_rfl
theorem zk4:Obl P 64 (fun v _=>R v) 0 _K [.run 248,.know 7 true,.run 49,.know 7 true,.run 49,.know 7 false,.run 133,.know 18 false,.run 47,.know 18 true,.run 26,.done] ((zb P 64 [.agg [.int .i64 k,.str a,.str b,.str c]] GW))=(((!a==([]:List UInt8))=true)∧((!b==([]:List UInt8))=true)∧((!c==([]:List UInt8))=false)∧(decide ((↑a.length:Int) > (64:Int))=false)∧(decide ((↑b.length:Int) > (200:Int))=true)∧(R (.int .i64 3))):=by rcases hk with rfl | rfl <;> kernel_rfl
theorem zjk:Obl P 64 (fun v _=>R v) 0 _K [.run 248,.know 7 true,.run 49,.know 7 true,.run 49,.know 7 false,.run 133,.know 18 false,.run 47,.know 18 false,.run 47,.know 18 true,.run 26,.done] ((zb P 64 [.agg [.int .i64 k,.str a,.str b,.str c]] GW))=(((!a==([]:List UInt8))=true)∧((!b==([]:List UInt8))=true)∧((!c==([]:List UInt8))=false)∧(decide ((↑a.length:Int) > (64:Int))=false)∧(decide ((↑b.length:Int) > (200:Int))=false)∧(decide ((↑c.length:Int) > (0:Int))=true)∧(R (.int .i64 3))):=by rcases hk with rfl | rfl <;> kernel_rfl
theorem ziA:Obl P 64 (fun v _=>R v) 0 _K [.run 248,.know 7 true,.run 49,.know 7 true,.run 49,.know 7 false,.run 133,.know 18 false,.run 47,.know 18 false,.run 47,.know 18 false,.run 52,.done] ((zb P 64 [.agg [.int .i64 k,.str a,.str b,.str c]] GW))=(((!a==([]:List UInt8))=true)∧((!b==([]:List UInt8))=true)∧((!c==([]:List UInt8))=false)∧(decide ((↑a.length:Int) > (64:Int))=false)∧(decide ((↑b.length:Int) > (200:Int))=false)∧(decide ((↑c.length:Int) > (0:Int))=false)∧(R (.int .i64 0))):=by rcases hk with rfl | rfl <;> kernel_rfl
theorem zpm:Obl P 64 (fun v _=>R v) 0 _K [.run 248,.know 7 true,.run 49,.know 7 false,.run 49,.know 7 true,.run 34,.done] ((zb P 64 [.agg [.int .i64 k,.str a,.str b,.str c]] GW))=(((!a==([]:List UInt8))=true)∧((!b==([]:List UInt8))=false)∧((!c==([]:List UInt8))=true)∧(R (.int .i64 2))):=by rcases hk with rfl | rfl <;> kernel_rfl
theorem zm6:Obl P 64 (fun v _=>R v) 0 _K [.run 248,.know 7 true,.run 49,.know 7 false,.run 49,.know 7 false,.run 133,.know 18 true,.run 26,.done] ((zb P 64 [.agg [.int .i64 k,.str a,.str b,.str c]] GW))=(((!a==([]:List UInt8))=true)∧((!b==([]:List UInt8))=false)∧((!c==([]:List UInt8))=false)∧(decide ((↑a.length:Int) > (64:Int))=true)∧(R (.int .i64 3))):=by rcases hk with rfl | rfl <;> kernel_rfl
theorem zlY:Obl P 64 (fun v _=>R v) 0 _K [.run 248,.know 7 true,.run 49,.know 7 false,.run 49,.know 7 false,.run 133,.know 18 false,.run 47,.know 18 true,.run 26,.done] ((zb P 64 [.agg [.int .i64 k,.str a,.str b,.str c]] GW))=(((!a==([]:List UInt8))=true)∧((!b==([]:List UInt8))=false)∧((!c==([]:List UInt8))=false)∧(decide ((↑a.length:Int) > (64:Int))=false)∧(decide ((↑b.length:Int) > (200:Int))=true)∧(R (.int .i64 3))):=by rcases hk with rfl | rfl <;> kernel_rfl
theorem zjl:Obl P 64 (fun v _=>R v) 0 _K [.run 248,.know 7 true,.run 49,.know 7 false,.run 49,.know 7 false,.run 133,.know 18 false,.run 47,.know 18 false,.run 47,.know 18 true,.run 26,.done] ((zb P 64 [.agg [.int .i64 k,.str a,.str b,.str c]] GW))=(((!a==([]:List UInt8))=true)∧((!b==([]:List UInt8))=false)∧((!c==([]:List UInt8))=false)∧(decide ((↑a.length:Int) > (64:Int))=false)∧(decide ((↑b.length:Int) > (200:Int))=false)∧(decide ((↑c.length:Int) > (0:Int))=true)∧(R (.int .i64 3))):=by rcases hk with rfl | rfl <;> kernel_rfl
theorem zjX:Obl P 64 (fun v _=>R v) 0 _K [.run 248,.know 7 true,.run 49,.know 7 false,.run 49,.know 7 false,.run 133,.know 18 false,.run 47,.know 18 false,.run 47,.know 18 false,.run 52,.done] ((zb P 64 [.agg [.int .i64 k,.str a,.str b,.str c]] GW))=(((!a==([]:List UInt8))=true)∧((!b==([]:List UInt8))=false)∧((!c==([]:List UInt8))=false)∧(decide ((↑a.length:Int) > (64:Int))=false)∧(decide ((↑b.length:Int) > (200:Int))=false)∧(decide ((↑c.length:Int) > (0:Int))=false)∧(R (.int .i64 0))):=by rcases hk with rfl | rfl <;> kernel_rfl
theorem zpo:Obl P 64 (fun v _=>R v) 0 _K [.run 248,.know 7 false,.run 49,.know 7 true,.run 49,.know 7 true,.run 34,.done] ((zb P 64 [.agg [.int .i64 k,.str a,.str b,.str c]] GW))=(((!a==([]:List UInt8))=false)∧((!b==([]:List UInt8))=true)∧((!c==([]:List UInt8))=true)∧(R (.int .i64 2))):=by rcases hk with rfl | rfl <;> kernel_rfl
theorem zob:Obl P 64 (fun v _=>R v) 0 _K [.run 248,.know 7 false,.run 49,.know 7 true,.run 49,.know 7 false,.run 133,.know 18 true,.run 26,.done] ((zb P 64 [.agg [.int .i64 k,.str a,.str b,.str c]] GW))=(((!a==([]:List UInt8))=false)∧((!b==([]:List UInt8))=true)∧((!c==([]:List UInt8))=false)∧(decide ((↑a.length:Int) > (64:Int))=true)∧(R (.int .i64 3))):=by rcases hk with rfl | rfl <;> kernel_rfl
theorem zk2:Obl P 64 (fun v _=>R v) 0 _K [.run 248,.know 7 false,.run 49,.know 7 true,.run 49,.know 7 false,.run 133,.know 18 false,.run 47,.know 18 true,.run 26,.done] ((zb P 64 [.agg [.int .i64 k,.str a,.str b,.str c]] GW))=(((!a==([]:List UInt8))=false)∧((!b==([]:List UInt8))=true)∧((!c==([]:List UInt8))=false)∧(decide ((↑a.length:Int) > (64:Int))=false)∧(decide ((↑b.length:Int) > (200:Int))=true)∧(R (.int .i64 3))):=by rcases hk with rfl | rfl <;> kernel_rfl
theorem zi8:Obl P 64 (fun v _=>R v) 0 _K [.run 248,.know 7 false,.run 49,.know 7 true,.run 49,.know 7 false,.run 133,.know 18 false,.run 47,.know 18 false,.run 47,.know 18 true,.run 26,.done] ((zb P 64 [.agg [.int .i64 k,.str a,.str b,.str c]] GW))=(((!a==([]:List UInt8))=false)∧((!b==([]:List UInt8))=true)∧((!c==([]:List UInt8))=false)∧(decide ((↑a.length:Int) > (64:Int))=false)∧(decide ((↑b.length:Int) > (200:Int))=false)∧(decide ((↑c.length:Int) > (0:Int))=true)∧(R (.int .i64 3))):=by rcases hk with rfl | rfl <;> kernel_rfl
theorem zj7:Obl P 64 (fun v _=>R v) 0 _K [.run 248,.know 7 false,.run 49,.know 7 true,.run 49,.know 7 false,.run 133,.know 18 false,.run 47,.know 18 false,.run 47,.know 18 false,.run 52,.done] ((zb P 64 [.agg [.int .i64 k,.str a,.str b,.str c]] GW))=(((!a==([]:List UInt8))=false)∧((!b==([]:List UInt8))=true)∧((!c==([]:List UInt8))=false)∧(decide ((↑a.length:Int) > (64:Int))=false)∧(decide ((↑b.length:Int) > (200:Int))=false)∧(decide ((↑c.length:Int) > (0:Int))=false)∧(R (.int .i64 0))):=by rcases hk with rfl | rfl <;> kernel_rfl
theorem zpd:Obl P 64 (fun v _=>R v) 0 _K [.run 248,.know 7 false,.run 49,.know 7 false,.run 49,.know 7 true,.run 34,.done] ((zb P 64 [.agg [.int .i64 k,.str a,.str b,.str c]] GW))=(((!a==([]:List UInt8))=false)∧((!b==([]:List UInt8))=false)∧((!c==([]:List UInt8))=true)∧(R (.int .i64 2))):=by rcases hk with rfl | rfl <;> kernel_rfl
theorem znc:Obl P 64 (fun v _=>R v) 0 _K [.run 248,.know 7 false,.run 49,.know 7 false,.run 49,.know 7 false,.run 133,.know 18 true,.run 26,.done] ((zb P 64 [.agg [.int .i64 k,.str a,.str b,.str c]] GW))=(((!a==([]:List UInt8))=false)∧((!b==([]:List UInt8))=false)∧((!c==([]:List UInt8))=false)∧(decide ((↑a.length:Int) > (64:Int))=true)∧(R (.int .i64 3))):=by rcases hk with rfl | rfl <;> kernel_rfl
theorem zlx:Obl P 64 (fun v _=>R v) 0 _K [.run 248,.know 7 false,.run 49,.know 7 false,.run 49,.know 7 false,.run 133,.know 18 false,.run 47,.know 18 true,.run 26,.done] ((zb P 64 [.agg [.int .i64 k,.str a,.str b,.str c]] GW))=(((!a==([]:List UInt8))=false)∧((!b==([]:List UInt8))=false)∧((!c==([]:List UInt8))=false)∧(decide ((↑a.length:Int) > (64:Int))=false)∧(decide ((↑b.length:Int) > (200:Int))=true)∧(R (.int .i64 3))):=by rcases hk with rfl | rfl <;> kernel_rfl
theorem ziq:Obl P 64 (fun v _=>R v) 0 _K [.run 248,.know 7 false,.run 49,.know 7 false,.run 49,.know 7 false,.run 133,.know 18 false,.run 47,.know 18 false,.run 47,.know 18 true,.run 26,.done] ((zb P 64 [.agg [.int .i64 k,.str a,.str b,.str c]] GW))=(((!a==([]:List UInt8))=false)∧((!b==([]:List UInt8))=false)∧((!c==([]:List UInt8))=false)∧(decide ((↑a.length:Int) > (64:Int))=false)∧(decide ((↑b.length:Int) > (200:Int))=false)∧(decide ((↑c.length:Int) > (0:Int))=true)∧(R (.int .i64 3))):=by rcases hk with rfl | rfl <;> kernel_rfl
theorem zh5:Obl P 64 (fun v _=>R v) 0 _K [.run 248,.know 7 false,.run 49,.know 7 false,.run 49,.know 7 false,.run 133,.know 18 false,.run 47,.know 18 false,.run 47,.know 18 false,.run 52,.done] ((zb P 64 [.agg [.int .i64 k,.str a,.str b,.str c]] GW))=(((!a==([]:List UInt8))=false)∧((!b==([]:List UInt8))=false)∧((!c==([]:List UInt8))=false)∧(decide ((↑a.length:Int) > (64:Int))=false)∧(decide ((↑b.length:Int) > (200:Int))=false)∧(decide ((↑c.length:Int) > (0:Int))=false)∧(R (.int .i64 0))):=by rcases hk with rfl | rfl <;> kernel_rfl
theorem zmu:Goal P 0 64 (fun v _=>v=.int .i64 (zbO 64 200 0 a b c)) (zb P 64 [.agg [.int .i64 k,.str a,.str b,.str c]] GW):=by
 cases h0:((!a==([]:List UInt8))) with
 | true =>
  cases h1:((!b==([]:List UInt8))) with
  | true =>
   cases h2:((!c==([]:List UInt8))) with
   | true =>
    have g0:=neT h0; have g1:=neT h1; have g2:=neT h2; exact G6 (zqa hk) ⟨h0,h1,h2,x2 (zby (by omega))⟩
   | false =>
    cases h3:(decide ((↑a.length:Int) > (64:Int))) with
    | true =>
     have g0:=neT h0; have g1:=neT h1; have g2:=neF h2; have g3:=of_decide_eq_true h3; exact G6 (znf hk) ⟨h0,h1,h2,h3,x3 (xv (by omega) (by omega))⟩
    | false =>
     cases h4:(decide ((↑b.length:Int) > (200:Int))) with
     | true =>
      have g0:=neT h0; have g1:=neT h1; have g2:=neF h2; have g3:=of_decide_eq_false h3; have g4:=of_decide_eq_true h4; exact G6 (zk4 hk) ⟨h0,h1,h2,h3,h4,x3 (xv (by omega) (by omega))⟩
     | false =>
      cases h5:(decide ((↑c.length:Int) > (0:Int))) with
      | true =>
       have g0:=neT h0; have g1:=neT h1; have g2:=neF h2; have g3:=of_decide_eq_false h3; have g4:=of_decide_eq_false h4; have g5:=of_decide_eq_true h5; exact G6 (zjk hk) ⟨h0,h1,h2,h3,h4,h5,x3 (xv (by omega) (by omega))⟩
      | false =>
       have g0:=neT h0; have g1:=neT h1; have g2:=neF h2; have g3:=of_decide_eq_false h3; have g4:=of_decide_eq_false h4; have g5:=of_decide_eq_false h5; exact G6 (ziA hk) ⟨h0,h1,h2,h3,h4,h5,congrArg (AV.int .i64) (jM (by omega) (by omega)).symm⟩
  | false =>
   cases h2:((!c==([]:List UInt8))) with
   | true =>
    have g0:=neT h0; have g1:=neF h1; have g2:=neT h2; exact G6 (zpm hk) ⟨h0,h1,h2,x2 (zby (by omega))⟩
   | false =>
    cases h3:(decide ((↑a.length:Int) > (64:Int))) with
    | true =>
     have g0:=neT h0; have g1:=neF h1; have g2:=neF h2; have g3:=of_decide_eq_true h3; exact G6 (zm6 hk) ⟨h0,h1,h2,h3,x3 (xv (by omega) (by omega))⟩
    | false =>
     cases h4:(decide ((↑b.length:Int) > (200:Int))) with
     | true =>
      have g0:=neT h0; have g1:=neF h1; have g2:=neF h2; have g3:=of_decide_eq_false h3; have g4:=of_decide_eq_true h4; exact G6 (zlY hk) ⟨h0,h1,h2,h3,h4,x3 (xv (by omega) (by omega))⟩
     | false =>
      cases h5:(decide ((↑c.length:Int) > (0:Int))) with
      | true =>
       have g0:=neT h0; have g1:=neF h1; have g2:=neF h2; have g3:=of_decide_eq_false h3; have g4:=of_decide_eq_false h4; have g5:=of_decide_eq_true h5; exact G6 (zjl hk) ⟨h0,h1,h2,h3,h4,h5,x3 (xv (by omega) (by omega))⟩
      | false =>
       have g0:=neT h0; have g1:=neF h1; have g2:=neF h2; have g3:=of_decide_eq_false h3; have g4:=of_decide_eq_false h4; have g5:=of_decide_eq_false h5; exact G6 (zjX hk) ⟨h0,h1,h2,h3,h4,h5,congrArg (AV.int .i64) (jM (by omega) (by omega)).symm⟩
 | false =>
  cases h1:((!b==([]:List UInt8))) with
  | true =>
   cases h2:((!c==([]:List UInt8))) with
   | true =>
    have g0:=neF h0; have g1:=neT h1; have g2:=neT h2; exact G6 (zpo hk) ⟨h0,h1,h2,x2 (zby (by omega))⟩
   | false =>
    cases h3:(decide ((↑a.length:Int) > (64:Int))) with
    | true =>
     have g0:=neF h0; have g1:=neT h1; have g2:=neF h2; have g3:=of_decide_eq_true h3; exact G6 (zob hk) ⟨h0,h1,h2,h3,x3 (xv (by omega) (by omega))⟩
    | false =>
     cases h4:(decide ((↑b.length:Int) > (200:Int))) with
     | true =>
      have g0:=neF h0; have g1:=neT h1; have g2:=neF h2; have g3:=of_decide_eq_false h3; have g4:=of_decide_eq_true h4; exact G6 (zk2 hk) ⟨h0,h1,h2,h3,h4,x3 (xv (by omega) (by omega))⟩
     | false =>
      cases h5:(decide ((↑c.length:Int) > (0:Int))) with
      | true =>
       have g0:=neF h0; have g1:=neT h1; have g2:=neF h2; have g3:=of_decide_eq_false h3; have g4:=of_decide_eq_false h4; have g5:=of_decide_eq_true h5; exact G6 (zi8 hk) ⟨h0,h1,h2,h3,h4,h5,x3 (xv (by omega) (by omega))⟩
      | false =>
       have g0:=neF h0; have g1:=neT h1; have g2:=neF h2; have g3:=of_decide_eq_false h3; have g4:=of_decide_eq_false h4; have g5:=of_decide_eq_false h5; exact G6 (zj7 hk) ⟨h0,h1,h2,h3,h4,h5,congrArg (AV.int .i64) (jM (by omega) (by omega)).symm⟩
  | false =>
   cases h2:((!c==([]:List UInt8))) with
   | true =>
    have g0:=neF h0; have g1:=neF h1; have g2:=neT h2; exact G6 (zpd hk) ⟨h0,h1,h2,x2 (zby (by omega))⟩
   | false =>
    cases h3:(decide ((↑a.length:Int) > (64:Int))) with
    | true =>
     have g0:=neF h0; have g1:=neF h1; have g2:=neF h2; have g3:=of_decide_eq_true h3; exact G6 (znc hk) ⟨h0,h1,h2,h3,x3 (xv (by omega) (by omega))⟩
    | false =>
     cases h4:(decide ((↑b.length:Int) > (200:Int))) with
     | true =>
      have g0:=neF h0; have g1:=neF h1; have g2:=neF h2; have g3:=of_decide_eq_false h3; have g4:=of_decide_eq_true h4; exact G6 (zlx hk) ⟨h0,h1,h2,h3,h4,x3 (xv (by omega) (by omega))⟩
     | false =>
      cases h5:(decide ((↑c.length:Int) > (0:Int))) with
      | true =>
       have g0:=neF h0; have g1:=neF h1; have g2:=neF h2; have g3:=of_decide_eq_false h3; have g4:=of_decide_eq_false h4; have g5:=of_decide_eq_true h5; exact G6 (ziq hk) ⟨h0,h1,h2,h3,h4,h5,x3 (xv (by omega) (by omega))⟩
      | false =>
       have g0:=neF h0; have g1:=neF h1; have g2:=neF h2; have g3:=of_decide_eq_false h3; have g4:=of_decide_eq_false h4; have g5:=of_decide_eq_false h5; exact G6 (zh5 hk) ⟨h0,h1,h2,h3,h4,h5,congrArg (AV.int .i64) (jM (by omega) (by omega)).symm⟩
end
theorem ckky (R:AV→Prop)(k:Int)(a b c:List UInt8)(_K:AM→Prop):Obl P 64 (fun v _=>R v) 0 _K [.run 36,.know 17 true,.run 128,.done] ((zb P 64 [.agg [.int .i64 k,.str a,.str b,.str c]] GW))=((decide (k<(1:Int))=true)∧(R (.int .i64 2))):=by kernel_rfl
theorem ckkny (R:AV→Prop)(k:Int)(a b c:List UInt8)(_K:AM→Prop):Obl P 64 (fun v _=>R v) 0 _K [.run 36,.know 17 false,.run 4,.know 20 true,.run 124,.done] ((zb P 64 [.agg [.int .i64 k,.str a,.str b,.str c]] GW))=((decide (k<(1:Int))=false)∧(decide (k > (9:Int))=true)∧(R (.int .i64 2))):=by kernel_rfl
theorem zoO (k:Int)(a b c:List UInt8):Goal P 0 64 (fun v _=>v=.int .i64 (chk k a b c)) (zb P 64 [.agg [.int .i64 k,.str a,.str b,.str c]] GW):=by
 by_cases h1:k<1
 · exact (oh (ckky _ k a b c _).symm ⟨decide_eq_true h1,congrArg (AV.int .i64) (if_pos (.inl h1)).symm⟩)
 by_cases h9:k > 9
 · exact (oh (ckkny _ k a b c _).symm ⟨decide_eq_false h1,decide_eq_true h9,congrArg (AV.int .i64) (if_pos (.inr h9)).symm⟩)
 have hk:k=1∨k=2∨k=3∨k=4∨k=5∨k=6∨k=7∨k=8∨k=9:=by omega
 rcases hk with rfl | rfl | rfl | rfl | rfl | rfl | rfl | rfl | rfl
 · exact zo5 (rfl)
 · exact zi0 (.inl rfl)
 · exact zj1 (.inl rfl)
 · exact zmu (.inl rfl)
 · exact zj1 (.inr (.inl rfl))
 · exact zmu (.inr rfl)
 · exact zi0 (.inr (.inl rfl))
 · exact zi0 (.inr (.inr rfl))
 · exact zj1 (.inr (.inr rfl))
end Go.Proofs.YtdbfpjgnlfejmaaDoor.mq
end
section
set_option maxRecDepth 100000
set_option linter.unusedVariables false
namespace Go.Proofs.YtdbfpjgnlfejmaaDoor.mq
open Go Ev
def lay (k:Int) (a b c:List UInt8):List UInt8 :=
 []++row (IntKind.u64.wrap k)++row (IntKind.u64.wrap a.length)++a++row (IntKind.u64.wrap b.length)++b++row (IntKind.u64.wrap c.length)++c
end Go.Proofs.YtdbfpjgnlfejmaaDoor.mq
end
section
set_option maxRecDepth 100000
set_option linter.unusedVariables false
namespace Go.Proofs.YtdbfpjgnlfejmaaDoor.dg
open Go Ev mq
noncomputable abbrev HQ (k:Int) (a b c:List UInt8) (G:T (T AV)):AHeap:=⟨(.node .leaf (some (.cells (.node (.node (.node .leaf (some (.str c)) .leaf) (some (.str a)) .leaf) (some (.int .i64 k)) (.node .leaf (some (.str b)) .leaf)) 4 39 0 0 1 0 false .leaf)) .leaf),1,G⟩
noncomputable def MDN (A:AV) (s:List UInt8) (G:T (T AV)):AM:=⟨⟨23,33,(.node .leaf none (.node (.node (.node .leaf (some (.ptr 1 0 0)) .leaf) none .leaf) (some (.ptr 0 0 0)) .leaf)),
 [.ops (rg P 23 [1,0]).toList ((rg P 23 [1,0]).toList.drop 2),.code (cd P (23:Nat) [(1:Nat),(1:Nat)])],[],.run,CallKind.normal,none⟩,
 [],
 ⟨(.node (.node .leaf (some (.cells (.node (.node .leaf (some (.bool false)) .leaf) (some A) .leaf) 2 101 0 0 1 0 false .leaf)) .leaf) (some (.cells (.node (.node (.node .leaf (some (.str [])) .leaf) (some (.str [])) .leaf) (some (.int .i64 0)) (.node .leaf (some (.str [])) .leaf)) 4 39 0 0 1 0 false .leaf)) (.node .leaf (some (.cells (.fn fun j=>some (AV.int IntKind.u8 (yy s j))) s.length 5 0 0 1 0 true .leaf)) .leaf)),3,G⟩⟩
theorem q0 (R:AV→AHeap→Prop)(s:List UInt8)(G:T (T AV))(K:AM→Prop):Obl P 23 (fun v h=>R v h) 0 K [.run 9,.callh [] [0] (.ptr 1 0 0) (RN s G),.can 0 [0,2,1] [2,8] []] ((zb P 23 [.str s] G))=((za fun j=>some (.int .u8 (yy s j)))∧(Goal P 0 54 (fun v h=>v=AV.ptr 1 0 0∧h=RN s G) (zb P 54 [.str s] G))∧(za fun j=>some (.int .u8 (yy s j)))∧K (MDN (.slg 2 0 0 s.length 0) s G)):=by kernel_rfl
theorem qE (R:AV→AHeap→Prop)(G:T (T AV))(_K:AM→Prop):Obl P 23 (fun v h=>R v h) 0 _K [.run 562,.can 0 [0] [2,3] [],.run 1,.done] ((zb P 23 [.str []] G))=((R (.tup [.agg [.int .i64 0,.str [],.str [],.str []],.int .i64 4]) ((HQ 0 [] [] [] G)))):=by kernel_rfl
theorem qn (R:AV→AHeap→Prop)(s:List UInt8)(x cp:Nat)(G:T (T AV))(_K:AM→Prop):Obl P 23 (fun v h=>R v h) 0 _K [.run 6,.callh [(1,0,[]),(2,0,[0])] [0] (.int .u64 0) (RZ s G),.run 16,.callh [(1,0,[])] [0] (.str []) (RB G),.run 2,.callh [(1,0,[])] [0] (.str []) (RB G),.run 2,.callh [(1,0,[])] [0] (.str []) (RB G),.run 62,.can 0 [0] [2,3] [],.run 1,.done] ((MDN (.slc 2 0 0 x cp) s G))=((za fun j=>some (.int .u8 (yy s j)))∧(za fun j=>some (.int .u8 (yy s j)))∧(Goal P 2 55 (fun v h=>v=AV.int .u64 (0:Int)∧h=RZ s G) (ze P 55 [.ptr 0 0 0] (RG s 0 x cp G)))∧(Goal P 1 56 (fun v h=>v=AV.str []∧h=RB G) (ze P 56 [.ptr 0 0 0] (RB G)))∧(Goal P 1 56 (fun v h=>v=AV.str []∧h=RB G) (ze P 56 [.ptr 0 0 0] (RB G)))∧(Goal P 1 56 (fun v h=>v=AV.str []∧h=RB G) (ze P 56 [.ptr 0 0 0] (RB G)))∧(R (.tup [.agg [.int .i64 0,.str [],.str [],.str []],.int .i64 4]) ((HQ 0 [] [] [] G)))):=by kernel_rfl
theorem q9 (R:AV→AHeap→Prop)(s:List UInt8)(n:Int)(x cp x1 y1:Nat)(G:T (T AV))(_K:AM→Prop):Obl P 23 (fun v h=>R v h) 0 _K [.run 6,.callh [(1,0,[]),(2,0,[0])] [0] (.int .u64 n) (RG s y1 x1 x1 G),.run 8,.know 12 true,.run 7,.can 0 [0] [2,3] [],.run 1,.done] ((MDN (.slc 2 0 0 x cp) s G))=((za fun j=>some (.int .u8 (yy s j)))∧(za fun j=>some (.int .u8 (yy s j)))∧(Goal P 2 55 (fun v h=>v=AV.int .u64 n∧h=RG s y1 x1 x1 G) (ze P 55 [.ptr 0 0 0] (RG s 0 x cp G)))∧(decide (n > (9:Int))=true)∧(R (.tup [.agg [.int .i64 0,.str [],.str [],.str []],.int .i64 4]) ((HQ 0 [] [] [] G)))):=by kernel_rfl
theorem qa (R:AV→AHeap→Prop)(s:List UInt8)(n:Int)(x cp x1 y1:Nat)(G:T (T AV))(_K:AM→Prop):Obl P 23 (fun v h=>R v h) 0 _K [.run 6,.callh [(1,0,[]),(2,0,[0])] [0] (.int .u64 n) (RG s y1 x1 x1 G),.run 8,.know 12 false,.run 8,.callh [(1,0,[]),(2,0,[0])] [0] (.str []) (RZ s G),.run 2,.callh [(1,0,[])] [0] (.str []) (RB G),.run 2,.callh [(1,0,[])] [0] (.str []) (RB G),.run 62,.can 0 [0] [2,3] [],.run 1,.done] ((MDN (.slc 2 0 0 x cp) s G))=((za fun j=>some (.int .u8 (yy s j)))∧(za fun j=>some (.int .u8 (yy s j)))∧(Goal P 2 55 (fun v h=>v=AV.int .u64 n∧h=RG s y1 x1 x1 G) (ze P 55 [.ptr 0 0 0] (RG s 0 x cp G)))∧(decide (n > (9:Int))=false)∧(za fun j=>some (.int .u8 (yy s j)))∧(za fun j=>some (.int .u8 (yy s j)))∧(Goal P 2 56 (fun v h=>v=AV.str []∧h=RZ s G) (ze P 56 [.ptr 0 0 0] (RG s y1 x1 x1 G)))∧(Goal P 1 56 (fun v h=>v=AV.str []∧h=RB G) (ze P 56 [.ptr 0 0 0] (RB G)))∧(Goal P 1 56 (fun v h=>v=AV.str []∧h=RB G) (ze P 56 [.ptr 0 0 0] (RB G)))∧(R (.tup [.agg [.int .i64 0,.str [],.str [],.str []],.int .i64 4]) ((HQ 0 [] [] [] G)))):=by kernel_rfl
theorem qb (R:AV→AHeap→Prop)(s a:List UInt8)(n:Int)(x cp x1 y1 x2 y2:Nat)(G:T (T AV))(_K:AM→Prop):Obl P 23 (fun v h=>R v h) 0 _K [.run 6,.callh [(1,0,[]),(2,0,[0])] [0] (.int .u64 n) (RG s y1 x1 x1 G),.run 8,.know 12 false,.run 8,.callh [(1,0,[]),(2,0,[0])] [0] (.str a) (RG s y2 x2 x2 G),.run 2,.callh [(1,0,[]),(2,0,[0])] [0] (.str []) (RZ s G),.run 2,.callh [(1,0,[])] [0] (.str []) (RB G),.run 62,.can 0 [0] [2,3] [],.run 1,.done] ((MDN (.slc 2 0 0 x cp) s G))=((za fun j=>some (.int .u8 (yy s j)))∧(za fun j=>some (.int .u8 (yy s j)))∧(Goal P 2 55 (fun v h=>v=AV.int .u64 n∧h=RG s y1 x1 x1 G) (ze P 55 [.ptr 0 0 0] (RG s 0 x cp G)))∧(decide (n > (9:Int))=false)∧(za fun j=>some (.int .u8 (yy s j)))∧(za fun j=>some (.int .u8 (yy s j)))∧(Goal P 2 56 (fun v h=>v=AV.str a∧h=RG s y2 x2 x2 G) (ze P 56 [.ptr 0 0 0] (RG s y1 x1 x1 G)))∧(za fun j=>some (.int .u8 (yy s j)))∧(za fun j=>some (.int .u8 (yy s j)))∧(Goal P 2 56 (fun v h=>v=AV.str []∧h=RZ s G) (ze P 56 [.ptr 0 0 0] (RG s y2 x2 x2 G)))∧(Goal P 1 56 (fun v h=>v=AV.str []∧h=RB G) (ze P 56 [.ptr 0 0 0] (RB G)))∧(R (.tup [.agg [.int .i64 0,.str [],.str [],.str []],.int .i64 4]) ((HQ 0 [] [] [] G)))):=by kernel_rfl
theorem qc (R:AV→AHeap→Prop)(s a b:List UInt8)(n:Int)(x cp x1 y1 x2 y2 x3 y3:Nat)(G:T (T AV))(_K:AM→Prop):Obl P 23 (fun v h=>R v h) 0 _K [.run 6,.callh [(1,0,[]),(2,0,[0])] [0] (.int .u64 n) (RG s y1 x1 x1 G),.run 8,.know 12 false,.run 8,.callh [(1,0,[]),(2,0,[0])] [0] (.str a) (RG s y2 x2 x2 G),.run 2,.callh [(1,0,[]),(2,0,[0])] [0] (.str b) (RG s y3 x3 x3 G),.run 2,.callh [(1,0,[]),(2,0,[0])] [0] (.str []) (RZ s G),.run 62,.can 0 [0] [2,3] [],.run 1,.done] ((MDN (.slc 2 0 0 x cp) s G))=((za fun j=>some (.int .u8 (yy s j)))∧(za fun j=>some (.int .u8 (yy s j)))∧(Goal P 2 55 (fun v h=>v=AV.int .u64 n∧h=RG s y1 x1 x1 G) (ze P 55 [.ptr 0 0 0] (RG s 0 x cp G)))∧(decide (n > (9:Int))=false)∧(za fun j=>some (.int .u8 (yy s j)))∧(za fun j=>some (.int .u8 (yy s j)))∧(Goal P 2 56 (fun v h=>v=AV.str a∧h=RG s y2 x2 x2 G) (ze P 56 [.ptr 0 0 0] (RG s y1 x1 x1 G)))∧(za fun j=>some (.int .u8 (yy s j)))∧(za fun j=>some (.int .u8 (yy s j)))∧(Goal P 2 56 (fun v h=>v=AV.str b∧h=RG s y3 x3 x3 G) (ze P 56 [.ptr 0 0 0] (RG s y2 x2 x2 G)))∧(za fun j=>some (.int .u8 (yy s j)))∧(za fun j=>some (.int .u8 (yy s j)))∧(Goal P 2 56 (fun v h=>v=AV.str []∧h=RZ s G) (ze P 56 [.ptr 0 0 0] (RG s y3 x3 x3 G)))∧(R (.tup [.agg [.int .i64 0,.str [],.str [],.str []],.int .i64 4]) ((HQ 0 [] [] [] G)))):=by kernel_rfl
theorem qx (R:AV→AHeap→Prop)(s a b c:List UInt8)(n:Int)(x cp x1 y1 x2 y2 x3 y3 x4 y4:Nat)(G:T (T AV))(_K:AM→Prop):Obl P 23 (fun v h=>R v h) 0 _K [.run 6,.callh [(1,0,[]),(2,0,[0])] [0] (.int .u64 n) (RG s y1 x1 x1 G),.run 8,.know 12 false,.run 8,.callh [(1,0,[]),(2,0,[0])] [0] (.str a) (RG s y2 x2 x2 G),.run 2,.callh [(1,0,[]),(2,0,[0])] [0] (.str b) (RG s y3 x3 x3 G),.run 2,.callh [(1,0,[]),(2,0,[0])] [0] (.str c) (RG s y4 x4 x4 G),.run 50,.know 26 true,.run 12,.can 0 [0] [2,3] [],.run 1,.done] ((MDN (.slc 2 0 0 x cp) s G))=((za fun j=>some (.int .u8 (yy s j)))∧(za fun j=>some (.int .u8 (yy s j)))∧(Goal P 2 55 (fun v h=>v=AV.int .u64 n∧h=RG s y1 x1 x1 G) (ze P 55 [.ptr 0 0 0] (RG s 0 x cp G)))∧(decide (n > (9:Int))=false)∧(za fun j=>some (.int .u8 (yy s j)))∧(za fun j=>some (.int .u8 (yy s j)))∧(Goal P 2 56 (fun v h=>v=AV.str a∧h=RG s y2 x2 x2 G) (ze P 56 [.ptr 0 0 0] (RG s y1 x1 x1 G)))∧(za fun j=>some (.int .u8 (yy s j)))∧(za fun j=>some (.int .u8 (yy s j)))∧(Goal P 2 56 (fun v h=>v=AV.str b∧h=RG s y3 x3 x3 G) (ze P 56 [.ptr 0 0 0] (RG s y2 x2 x2 G)))∧(za fun j=>some (.int .u8 (yy s j)))∧(za fun j=>some (.int .u8 (yy s j)))∧(Goal P 2 56 (fun v h=>v=AV.str c∧h=RG s y4 x4 x4 G) (ze P 56 [.ptr 0 0 0] (RG s y3 x3 x3 G)))∧((!(↑x4:Int)==(0:Int))=true)∧(R (.tup [.agg [.int .i64 0,.str [],.str [],.str []],.int .i64 4]) ((HQ 0 [] [] [] G)))):=by kernel_rfl
theorem qy (R:AV→AHeap→Prop)(s a b c:List UInt8)(n e:Int)(x cp x1 y1 x2 y2 x3 y3 y4:Nat)(G:T (T AV))(_K:AM→Prop):Obl P 23 (fun v h=>R v h) 0 _K [.run 6,.callh [(1,0,[]),(2,0,[0])] [0] (.int .u64 n) (RG s y1 x1 x1 G),.run 8,.know 12 false,.run 8,.callh [(1,0,[]),(2,0,[0])] [0] (.str a) (RG s y2 x2 x2 G),.run 2,.callh [(1,0,[]),(2,0,[0])] [0] (.str b) (RG s y3 x3 x3 G),.run 2,.callh [(1,0,[]),(2,0,[0])] [0] (.str c) (RG s y4 0 0 G),.run 52,.callv [0] (.int .i64 e),.run 3,.know 30 true,.run 7,.can 0 [0] [2,3] [],.run 1,.done] ((MDN (.slc 2 0 0 x cp) s G))=((za fun j=>some (.int .u8 (yy s j)))∧(za fun j=>some (.int .u8 (yy s j)))∧(Goal P 2 55 (fun v h=>v=AV.int .u64 n∧h=RG s y1 x1 x1 G) (ze P 55 [.ptr 0 0 0] (RG s 0 x cp G)))∧(decide (n > (9:Int))=false)∧(za fun j=>some (.int .u8 (yy s j)))∧(za fun j=>some (.int .u8 (yy s j)))∧(Goal P 2 56 (fun v h=>v=AV.str a∧h=RG s y2 x2 x2 G) (ze P 56 [.ptr 0 0 0] (RG s y1 x1 x1 G)))∧(za fun j=>some (.int .u8 (yy s j)))∧(za fun j=>some (.int .u8 (yy s j)))∧(Goal P 2 56 (fun v h=>v=AV.str b∧h=RG s y3 x3 x3 G) (ze P 56 [.ptr 0 0 0] (RG s y2 x2 x2 G)))∧(za fun j=>some (.int .u8 (yy s j)))∧(za fun j=>some (.int .u8 (yy s j)))∧(Goal P 2 56 (fun v h=>v=AV.str c∧h=RG s y4 0 0 G) (ze P 56 [.ptr 0 0 0] (RG s y3 x3 x3 G)))∧(Goal P 0 64 (fun v _=>v=AV.int .i64 e) (zb P 64 [.agg [.int .i64 (IntKind.i64.wrap n),.str a,.str b,.str c]] G))∧((e != (0:Int))=true)∧(R (.tup [.agg [.int .i64 0,.str [],.str [],.str []],.int .i64 4]) ((HQ 0 [] [] [] G)))):=by kernel_rfl
theorem qz (R:AV→AHeap→Prop)(s a b c:List UInt8)(n e:Int)(x cp x1 y1 x2 y2 x3 y3 y4:Nat)(G:T (T AV))(_K:AM→Prop):Obl P 23 (fun v h=>R v h) 0 _K [.run 6,.callh [(1,0,[]),(2,0,[0])] [0] (.int .u64 n) (RG s y1 x1 x1 G),.run 8,.know 12 false,.run 8,.callh [(1,0,[]),(2,0,[0])] [0] (.str a) (RG s y2 x2 x2 G),.run 2,.callh [(1,0,[]),(2,0,[0])] [0] (.str b) (RG s y3 x3 x3 G),.run 2,.callh [(1,0,[]),(2,0,[0])] [0] (.str c) (RG s y4 0 0 G),.run 52,.callv [0] (.int .i64 e),.run 3,.know 30 false,.run 8,.can 0 [0] [2,3] [],.run 1,.done] ((MDN (.slc 2 0 0 x cp) s G))=((za fun j=>some (.int .u8 (yy s j)))∧(za fun j=>some (.int .u8 (yy s j)))∧(Goal P 2 55 (fun v h=>v=AV.int .u64 n∧h=RG s y1 x1 x1 G) (ze P 55 [.ptr 0 0 0] (RG s 0 x cp G)))∧(decide (n > (9:Int))=false)∧(za fun j=>some (.int .u8 (yy s j)))∧(za fun j=>some (.int .u8 (yy s j)))∧(Goal P 2 56 (fun v h=>v=AV.str a∧h=RG s y2 x2 x2 G) (ze P 56 [.ptr 0 0 0] (RG s y1 x1 x1 G)))∧(za fun j=>some (.int .u8 (yy s j)))∧(za fun j=>some (.int .u8 (yy s j)))∧(Goal P 2 56 (fun v h=>v=AV.str b∧h=RG s y3 x3 x3 G) (ze P 56 [.ptr 0 0 0] (RG s y2 x2 x2 G)))∧(za fun j=>some (.int .u8 (yy s j)))∧(za fun j=>some (.int .u8 (yy s j)))∧(Goal P 2 56 (fun v h=>v=AV.str c∧h=RG s y4 0 0 G) (ze P 56 [.ptr 0 0 0] (RG s y3 x3 x3 G)))∧(Goal P 0 64 (fun v _=>v=AV.int .i64 e) (zb P 64 [.agg [.int .i64 (IntKind.i64.wrap n),.str a,.str b,.str c]] G))∧((e != (0:Int))=false)∧(R (.tup [.agg [.int .i64 (IntKind.i64.wrap n),.str a,.str b,.str c],.int .i64 0]) ((HQ (IntKind.i64.wrap n) a b c G)))):=by kernel_rfl
theorem znY (s:List UInt8)(Q:AV→AHeap→Prop)(G:T (T AV))(K:AM→Prop):Obl P 23 Q 0 K [.cap 1 0] (MDN (.slg 2 0 0 s.length 0) s G)=(0<s.length∧∀ cap,s.length≤cap→K (MDN (.slc 2 0 0 s.length cap) s G)):=by kernel_rfl
theorem zcd {k:Int}{a b c:List UInt8}(h:chk k a b c=0):1≤k∧k≤9∧a.length≤64∧b.length≤200∧c.length≤5000:=by
 unfold chk at h
 split at h
 · cases h
 · rename_i hk
   unfold zbO at h
   split at h
   · cases h
   · split at h
     · cases h
     · rename_i h1 h2
       have hA:limA k≤64:=by unfold limA; split <;> omega
       have hB:limB k≤200:=by unfold limB; split <;> omega
       have hC:limC k≤5000:=by unfold limC; split <;> omega
       omega
theorem zgu {k:Int}{a b c:List UInt8}(h:chk k a b c=0):lay k a b c=row k++(row (a.length:Nat)++(a++(row (b.length:Nat)++(b++(row (c.length:Nat)++c))))):=by
 obtain ⟨h1,h2,h3,h4,h5⟩:=zcd h
 have w:IntKind.u64.wrap k=k:=IntWalk.u64_in _ (by omega)
 unfold lay
 rw [w,znz _ (by omega),znz _ (by omega),znz _ (by omega)]
 simp only [List.nil_append,List.append_assoc]
abbrev QBad (m:AM):Prop:=Goal P 0 23 (fun v h=>v=.tup [.agg [.int .i64 0,.str [],.str [],.str []],.int .i64 4]∧h=HQ 0 [] [] [] GW) m
section
variable {s:List UInt8}
theorem zj5 (h0:0<s.length){Q:AV→AHeap→Prop}(h:∀ cap,s.length≤cap→Goal P 0 23 Q (MDN (.slc 2 0 0 s.length cap) s GW)):Goal P 0 23 Q (zb P 23 [.str s] GW) :=
 (og (q0 _ _ GW _).symm ⟨zc s,zcc 0 s,zc s,(og (znY s _ GW _).symm ⟨h0,h⟩)⟩)
theorem zk5 (hs:s.length≤200000)(hno:∀ k a b c,chk k a b c=0→lay k a b c≠s):QBad (zb P 23 [.str s] GW):=by
 by_cases h0:0<s.length
 · refine zj5 h0 fun cap hcap=>?_
   rcases vq hs (st0 s) hcap with ⟨n,x1,y1,g0,s1,n0,n1,e0⟩ | g0
   · by_cases hn:n > 9
     · exact (og (q9 _ (s) _ (s.length) (cap) _ _ GW _).symm ⟨zc s,zc s,g0,decide_eq_true hn,rfl,rfl⟩)
     · rcases yV hs s1 (Nat.le_refl _) with ⟨a,x2,y2,g1,s2,e1⟩ | g1
       · rcases yV hs s2 (Nat.le_refl _) with ⟨b,x3,y3,g2,s3,e2⟩ | g2
         · rcases yV hs s3 (Nat.le_refl _) with ⟨c,x4,y4,g3,s4,e3⟩ | g3
           · by_cases hx:x4=0
             · subst hx
               have w:IntKind.i64.wrap n=n:=IntWalk.i64_in _ (by omega)
               have hne:chk n a b c≠0:=by
                intro hc
                apply hno n a b c hc
                rw [zgu hc,← kK s,e0,e1,e2,e3,zao,List.append_nil]
               exact (og (qy _ (s) _ _ _ _ (chk n a b c) (s.length) (cap) _ _ _ _ _ _ _ GW _).symm ⟨zc s,zc s,g0,decide_eq_false hn,zc s,zc s,g1,zc s,zc s,g2,zc s,zc s,g3,by rw [w]; exact zoO n a b c,by simpa using hne,rfl,rfl⟩)
             · exact (og (qx _ (s) _ _ _ _ (s.length) (cap) _ _ _ _ _ _ _ _ GW _).symm ⟨zc s,zc s,g0,decide_eq_false hn,zc s,zc s,g1,zc s,zc s,g2,zc s,zc s,g3,nzT (by omega),rfl,rfl⟩)
           · exact (og (qc _ (s) _ _ _ (s.length) (cap) _ _ _ _ _ _ GW _).symm ⟨zc s,zc s,g0,decide_eq_false hn,zc s,zc s,g1,zc s,zc s,g2,zc s,zc s,g3,rfl,rfl⟩)
         · exact (og (qb _ (s) _ _ (s.length) (cap) _ _ _ _ GW _).symm ⟨zc s,zc s,g0,decide_eq_false hn,zc s,zc s,g1,zc s,zc s,g2,qW,rfl,rfl⟩)
       · exact (og (qa _ (s) _ (s.length) (cap) _ _ GW _).symm ⟨zc s,zc s,g0,decide_eq_false hn,zc s,zc s,g1,qW,qW,rfl,rfl⟩)
   · exact (og (qn _ (s) (s.length) (cap) GW _).symm ⟨zc s,zc s,g0,qW,qW,qW,rfl,rfl⟩)
 · obtain rfl:s=[]:=List.eq_nil_of_length_eq_zero (by omega)
   exact (og (qE _ GW _).symm ⟨rfl,rfl⟩)
theorem zoj (hs:s.length≤200000){k:Int}{a b c:List UInt8}(hc:chk k a b c=0)(he:lay k a b c=s) :
 Goal P 0 23 (fun v h=>v=.tup [.agg [.int .i64 k,.str a,.str b,.str c],.int .i64 0]∧h=HQ k a b c GW) (zb P 23 [.str s] GW):=by
 obtain ⟨l1,l2,l3,l4,l5⟩:=zcd hc
 rw [zgu hc] at he
 have hp:=zL k
 have h0:0<s.length:=by rw [← he,List.length_append]; omega
 refine zj5 h0 fun cap hcap=>?_
 obtain ⟨x1,y1,g0,s1,e1⟩:=zeg hs (st0 s) hcap (n:=k) (by omega) (by omega) ((kK s).trans he.symm)
 obtain ⟨x2,y2,g1,s2,e2⟩:=wr hs s1 (Nat.le_refl _) e1
 obtain ⟨x3,y3,g2,s3,e3⟩:=wr hs s2 (Nat.le_refl _) e2
 obtain ⟨x4,y4,g3,s4,e4⟩:=wr hs s3 (Nat.le_refl _) (t:=c) (rest:=[]) (by rw [List.append_nil]; exact e3)
 have hx:x4=0:=by
  have:=ym s4
  rw [e4] at this
  exact this.symm
 subst hx
 have w:IntKind.i64.wrap k=k:=IntWalk.i64_in _ (by omega)
 have hk:=zoO k a b c
 rw [hc] at hk
 exact (og (qz _ (s) _ _ _ _ (0) (s.length) (cap) _ _ _ _ _ _ _ GW _).symm ⟨zc s,zc s,g0,decide_eq_false (by omega),zc s,zc s,g1,zc s,zc s,g2,zc s,zc s,g3,by rw [w]; exact hk,by decide,by rw [w],by rw [w]⟩)
end
end Go.Proofs.YtdbfpjgnlfejmaaDoor.dg
end
section
set_option maxRecDepth 100000
set_option linter.unusedVariables false
namespace Go.Proofs.YtdbfpjgnlfejmaaDoor.mq
open Go Ev
section
set_option linter.unusedSectionVars false
variable (R:AV→Prop) (a b c:List UInt8) (_K:AM→Prop)
include R a b c _K
theorem rk1y:Obl P 65 (fun v _=>R v) 0 _K [.run 69,.know 28 true,.run 24,.done] ((zb P 65 [.agg [.int .i64 1,.str a,.str b,.str c]] GW))=(((!a==([]:List UInt8))=true)∧(R (.int .i64 2))):=by kernel_rfl
theorem rk1ny:Obl P 65 (fun v _=>R v) 0 _K [.run 69,.know 28 false,.run 9,.know 37 true,.run 15,.done] ((zb P 65 [.agg [.int .i64 1,.str a,.str b,.str c]] GW))=(((!a==([]:List UInt8))=false)∧((!b==([]:List UInt8))=true)∧(R (.int .i64 2))):=by kernel_rfl
theorem zoK:Obl P 65 (fun v _=>R v) 0 _K [.run 69,.know 28 false,.run 9,.know 37 false,.run 19,.know 50 true,.run 18,.done] ((zb P 65 [.agg [.int .i64 1,.str a,.str b,.str c]] GW))=(((!a==([]:List UInt8))=false)∧((!b==([]:List UInt8))=false)∧(decide ((↑a.length:Int) > (64:Int))=true)∧(R (.int .i64 3))):=by kernel_rfl
theorem zm9:Obl P 65 (fun v _=>R v) 0 _K [.run 69,.know 28 false,.run 9,.know 37 false,.run 19,.know 50 false,.run 6,.know 56 true,.run 12,.done] ((zb P 65 [.agg [.int .i64 1,.str a,.str b,.str c]] GW))=(((!a==([]:List UInt8))=false)∧((!b==([]:List UInt8))=false)∧(decide ((↑a.length:Int) > (64:Int))=false)∧(decide ((↑b.length:Int) > (200:Int))=true)∧(R (.int .i64 3))):=by kernel_rfl
theorem zlo:Obl P 65 (fun v _=>R v) 0 _K [.run 69,.know 28 false,.run 9,.know 37 false,.run 19,.know 50 false,.run 6,.know 56 false,.run 6,.know 61 true,.run 6,.done] ((zb P 65 [.agg [.int .i64 1,.str a,.str b,.str c]] GW))=(((!a==([]:List UInt8))=false)∧((!b==([]:List UInt8))=false)∧(decide ((↑a.length:Int) > (64:Int))=false)∧(decide ((↑b.length:Int) > (200:Int))=false)∧(decide ((↑c.length:Int) > (5000:Int))=true)∧(R (.int .i64 3))):=by kernel_rfl
theorem zk1:Obl P 65 (fun v _=>R v) 0 _K [.run 69,.know 28 false,.run 9,.know 37 false,.run 19,.know 50 false,.run 6,.know 56 false,.run 6,.know 61 false,.run 7,.done] ((zb P 65 [.agg [.int .i64 1,.str a,.str b,.str c]] GW))=(((!a==([]:List UInt8))=false)∧((!b==([]:List UInt8))=false)∧(decide ((↑a.length:Int) > (64:Int))=false)∧(decide ((↑b.length:Int) > (200:Int))=false)∧(decide ((↑c.length:Int) > (5000:Int))=false)∧(R (.int .i64 0))):=by kernel_rfl
end
theorem zpR (a b c:List UInt8):Goal P 0 65 (fun v _=>v=.int .i64 (zbO 0 0 5000 a b c)) (zb P 65 [.agg [.int .i64 1,.str a,.str b,.str c]] GW):=by
 cases h0:((!a==([]:List UInt8))) with
 | true =>
  have g0:=neT h0; exact (oh (rk1y _ a b c _).symm ⟨h0,congrArg (AV.int .i64) (zby (by omega)).symm⟩)
 | false =>
  cases h1:((!b==([]:List UInt8))) with
  | true =>
   have g0:=neF h0; have g1:=neT h1; exact (oh (rk1ny _ a b c _).symm ⟨h0,h1,congrArg (AV.int .i64) (zby (by omega)).symm⟩)
  | false =>
   cases h2:(decide ((↑a.length:Int) > (64:Int))) with
   | true =>
    have g0:=neF h0; have g1:=neF h1; have g2:=of_decide_eq_true h2; exact (oh (zoK _ a b c _).symm ⟨h0,h1,h2,congrArg (AV.int .i64) (xv (by omega) (by omega)).symm⟩)
   | false =>
    cases h3:(decide ((↑b.length:Int) > (200:Int))) with
    | true =>
     have g0:=neF h0; have g1:=neF h1; have g2:=of_decide_eq_false h2; have g3:=of_decide_eq_true h3; exact (oh (zm9 _ a b c _).symm ⟨h0,h1,h2,h3,congrArg (AV.int .i64) (xv (by omega) (by omega)).symm⟩)
    | false =>
     cases h4:(decide ((↑c.length:Int) > (5000:Int))) with
     | true =>
      have g0:=neF h0; have g1:=neF h1; have g2:=of_decide_eq_false h2; have g3:=of_decide_eq_false h3; have g4:=of_decide_eq_true h4; exact (oh (zlo _ a b c _).symm ⟨h0,h1,h2,h3,h4,congrArg (AV.int .i64) (xv (by omega) (by omega)).symm⟩)
     | false =>
      have g0:=neF h0; have g1:=neF h1; have g2:=of_decide_eq_false h2; have g3:=of_decide_eq_false h3; have g4:=of_decide_eq_false h4; exact (oh (zk1 _ a b c _).symm ⟨h0,h1,h2,h3,h4,congrArg (AV.int .i64) (jM (by omega) (by omega)).symm⟩)
section
set_option linter.unusedSectionVars false
variable (R:AV→Prop) (a b c:List UInt8) (_K:AM→Prop)
include R a b c _K
theorem rk2y:Obl P 65 (fun v _=>R v) 0 _K [.run 87,.know 37 true,.run 15,.done] ((zb P 65 [.agg [.int .i64 2,.str a,.str b,.str c]] GW))=(((!b==([]:List UInt8))=true)∧(R (.int .i64 2))):=by kernel_rfl
theorem rk2ny:Obl P 65 (fun v _=>R v) 0 _K [.run 87,.know 37 false,.run 9,.know 45 true,.run 6,.done] ((zb P 65 [.agg [.int .i64 2,.str a,.str b,.str c]] GW))=(((!b==([]:List UInt8))=false)∧((!c==([]:List UInt8))=true)∧(R (.int .i64 2))):=by kernel_rfl
theorem zqd:Obl P 65 (fun v _=>R v) 0 _K [.run 87,.know 37 false,.run 9,.know 45 false,.run 10,.know 50 true,.run 18,.done] ((zb P 65 [.agg [.int .i64 2,.str a,.str b,.str c]] GW))=(((!b==([]:List UInt8))=false)∧((!c==([]:List UInt8))=false)∧(decide ((↑a.length:Int) > (64:Int))=true)∧(R (.int .i64 3))):=by kernel_rfl
theorem zoe:Obl P 65 (fun v _=>R v) 0 _K [.run 87,.know 37 false,.run 9,.know 45 false,.run 10,.know 50 false,.run 6,.know 56 true,.run 12,.done] ((zb P 65 [.agg [.int .i64 2,.str a,.str b,.str c]] GW))=(((!b==([]:List UInt8))=false)∧((!c==([]:List UInt8))=false)∧(decide ((↑a.length:Int) > (64:Int))=false)∧(decide ((↑b.length:Int) > (200:Int))=true)∧(R (.int .i64 3))):=by kernel_rfl
theorem zlW:Obl P 65 (fun v _=>R v) 0 _K [.run 87,.know 37 false,.run 9,.know 45 false,.run 10,.know 50 false,.run 6,.know 56 false,.run 6,.know 61 true,.run 6,.done] ((zb P 65 [.agg [.int .i64 2,.str a,.str b,.str c]] GW))=(((!b==([]:List UInt8))=false)∧((!c==([]:List UInt8))=false)∧(decide ((↑a.length:Int) > (64:Int))=false)∧(decide ((↑b.length:Int) > (200:Int))=false)∧(decide ((↑c.length:Int) > (5000:Int))=true)∧(R (.int .i64 3))):=by kernel_rfl
theorem zkI:Obl P 65 (fun v _=>R v) 0 _K [.run 87,.know 37 false,.run 9,.know 45 false,.run 10,.know 50 false,.run 6,.know 56 false,.run 6,.know 61 false,.run 7,.done] ((zb P 65 [.agg [.int .i64 2,.str a,.str b,.str c]] GW))=(((!b==([]:List UInt8))=false)∧((!c==([]:List UInt8))=false)∧(decide ((↑a.length:Int) > (64:Int))=false)∧(decide ((↑b.length:Int) > (200:Int))=false)∧(decide ((↑c.length:Int) > (5000:Int))=false)∧(R (.int .i64 0))):=by kernel_rfl
end
theorem zpg (a b c:List UInt8):Goal P 0 65 (fun v _=>v=.int .i64 (zbO 64 0 0 a b c)) (zb P 65 [.agg [.int .i64 2,.str a,.str b,.str c]] GW):=by
 cases h0:((!b==([]:List UInt8))) with
 | true =>
  have g0:=neT h0; exact (oh (rk2y _ a b c _).symm ⟨h0,congrArg (AV.int .i64) (zby (by omega)).symm⟩)
 | false =>
  cases h1:((!c==([]:List UInt8))) with
  | true =>
   have g0:=neF h0; have g1:=neT h1; exact (oh (rk2ny _ a b c _).symm ⟨h0,h1,congrArg (AV.int .i64) (zby (by omega)).symm⟩)
  | false =>
   cases h2:(decide ((↑a.length:Int) > (64:Int))) with
   | true =>
    have g0:=neF h0; have g1:=neF h1; have g2:=of_decide_eq_true h2; exact (oh (zqd _ a b c _).symm ⟨h0,h1,h2,congrArg (AV.int .i64) (xv (by omega) (by omega)).symm⟩)
   | false =>
    cases h3:(decide ((↑b.length:Int) > (200:Int))) with
    | true =>
     have g0:=neF h0; have g1:=neF h1; have g2:=of_decide_eq_false h2; have g3:=of_decide_eq_true h3; exact (oh (zoe _ a b c _).symm ⟨h0,h1,h2,h3,congrArg (AV.int .i64) (xv (by omega) (by omega)).symm⟩)
    | false =>
     cases h4:(decide ((↑c.length:Int) > (5000:Int))) with
     | true =>
      have g0:=neF h0; have g1:=neF h1; have g2:=of_decide_eq_false h2; have g3:=of_decide_eq_false h3; have g4:=of_decide_eq_true h4; exact (oh (zlW _ a b c _).symm ⟨h0,h1,h2,h3,h4,congrArg (AV.int .i64) (xv (by omega) (by omega)).symm⟩)
     | false =>
      have g0:=neF h0; have g1:=neF h1; have g2:=of_decide_eq_false h2; have g3:=of_decide_eq_false h3; have g4:=of_decide_eq_false h4; exact (oh (zkI _ a b c _).symm ⟨h0,h1,h2,h3,h4,congrArg (AV.int .i64) (jM (by omega) (by omega)).symm⟩)
section
set_option linter.unusedSectionVars false
variable (R:AV→Prop) (a b c:List UInt8) (_K:AM→Prop)
include R a b c _K
theorem rk3y:Obl P 65 (fun v _=>R v) 0 _K [.run 129,.know 50 true,.run 18,.done] ((zb P 65 [.agg [.int .i64 3,.str a,.str b,.str c]] GW))=((decide ((↑a.length:Int) > (64:Int))=true)∧(R (.int .i64 3))):=by kernel_rfl
theorem rk3ny:Obl P 65 (fun v _=>R v) 0 _K [.run 129,.know 50 false,.run 6,.know 56 true,.run 12,.done] ((zb P 65 [.agg [.int .i64 3,.str a,.str b,.str c]] GW))=((decide ((↑a.length:Int) > (64:Int))=false)∧(decide ((↑b.length:Int) > (200:Int))=true)∧(R (.int .i64 3))):=by kernel_rfl
theorem zoW:Obl P 65 (fun v _=>R v) 0 _K [.run 129,.know 50 false,.run 6,.know 56 false,.run 6,.know 61 true,.run 6,.done] ((zb P 65 [.agg [.int .i64 3,.str a,.str b,.str c]] GW))=((decide ((↑a.length:Int) > (64:Int))=false)∧(decide ((↑b.length:Int) > (200:Int))=false)∧(decide ((↑c.length:Int) > (5000:Int))=true)∧(R (.int .i64 3))):=by kernel_rfl
theorem zph:Obl P 65 (fun v _=>R v) 0 _K [.run 129,.know 50 false,.run 6,.know 56 false,.run 6,.know 61 false,.run 7,.done] ((zb P 65 [.agg [.int .i64 3,.str a,.str b,.str c]] GW))=((decide ((↑a.length:Int) > (64:Int))=false)∧(decide ((↑b.length:Int) > (200:Int))=false)∧(decide ((↑c.length:Int) > (5000:Int))=false)∧(R (.int .i64 0))):=by kernel_rfl
end
theorem zpS (a b c:List UInt8):Goal P 0 65 (fun v _=>v=.int .i64 (zbO 64 200 5000 a b c)) (zb P 65 [.agg [.int .i64 3,.str a,.str b,.str c]] GW):=by
 cases h0:(decide ((↑a.length:Int) > (64:Int))) with
 | true =>
  have g0:=of_decide_eq_true h0; exact (oh (rk3y _ a b c _).symm ⟨h0,congrArg (AV.int .i64) (xv (by omega) (by omega)).symm⟩)
 | false =>
  cases h1:(decide ((↑b.length:Int) > (200:Int))) with
  | true =>
   have g0:=of_decide_eq_false h0; have g1:=of_decide_eq_true h1; exact (oh (rk3ny _ a b c _).symm ⟨h0,h1,congrArg (AV.int .i64) (xv (by omega) (by omega)).symm⟩)
  | false =>
   cases h2:(decide ((↑c.length:Int) > (5000:Int))) with
   | true =>
    have g0:=of_decide_eq_false h0; have g1:=of_decide_eq_false h1; have g2:=of_decide_eq_true h2; exact (oh (zoW _ a b c _).symm ⟨h0,h1,h2,congrArg (AV.int .i64) (xv (by omega) (by omega)).symm⟩)
   | false =>
    have g0:=of_decide_eq_false h0; have g1:=of_decide_eq_false h1; have g2:=of_decide_eq_false h2; exact (oh (zph _ a b c _).symm ⟨h0,h1,h2,congrArg (AV.int .i64) (jM (by omega) (by omega)).symm⟩)
section
set_option linter.unusedSectionVars false
variable (R:AV→Prop) (a b c:List UInt8) (_K:AM→Prop)
include R a b c _K
theorem rk4y:Obl P 65 (fun v _=>R v) 0 _K [.run 114,.know 45 true,.run 6,.done] ((zb P 65 [.agg [.int .i64 4,.str a,.str b,.str c]] GW))=(((!c==([]:List UInt8))=true)∧(R (.int .i64 2))):=by kernel_rfl
theorem rk4ny:Obl P 65 (fun v _=>R v) 0 _K [.run 114,.know 45 false,.run 10,.know 50 true,.run 18,.done] ((zb P 65 [.agg [.int .i64 4,.str a,.str b,.str c]] GW))=(((!c==([]:List UInt8))=false)∧(decide ((↑a.length:Int) > (64:Int))=true)∧(R (.int .i64 3))):=by kernel_rfl
theorem zoT:Obl P 65 (fun v _=>R v) 0 _K [.run 114,.know 45 false,.run 10,.know 50 false,.run 6,.know 56 true,.run 12,.done] ((zb P 65 [.agg [.int .i64 4,.str a,.str b,.str c]] GW))=(((!c==([]:List UInt8))=false)∧(decide ((↑a.length:Int) > (64:Int))=false)∧(decide ((↑b.length:Int) > (200:Int))=true)∧(R (.int .i64 3))):=by kernel_rfl
theorem zok:Obl P 65 (fun v _=>R v) 0 _K [.run 114,.know 45 false,.run 10,.know 50 false,.run 6,.know 56 false,.run 6,.know 61 true,.run 6,.done] ((zb P 65 [.agg [.int .i64 4,.str a,.str b,.str c]] GW))=(((!c==([]:List UInt8))=false)∧(decide ((↑a.length:Int) > (64:Int))=false)∧(decide ((↑b.length:Int) > (200:Int))=false)∧(decide ((↑c.length:Int) > (5000:Int))=true)∧(R (.int .i64 3))):=by kernel_rfl
theorem zmJ:Obl P 65 (fun v _=>R v) 0 _K [.run 114,.know 45 false,.run 10,.know 50 false,.run 6,.know 56 false,.run 6,.know 61 false,.run 7,.done] ((zb P 65 [.agg [.int .i64 4,.str a,.str b,.str c]] GW))=(((!c==([]:List UInt8))=false)∧(decide ((↑a.length:Int) > (64:Int))=false)∧(decide ((↑b.length:Int) > (200:Int))=false)∧(decide ((↑c.length:Int) > (5000:Int))=false)∧(R (.int .i64 0))):=by kernel_rfl
end
theorem zps (a b c:List UInt8):Goal P 0 65 (fun v _=>v=.int .i64 (zbO 64 200 0 a b c)) (zb P 65 [.agg [.int .i64 4,.str a,.str b,.str c]] GW):=by
 cases h0:((!c==([]:List UInt8))) with
 | true =>
  have g0:=neT h0; exact (oh (rk4y _ a b c _).symm ⟨h0,congrArg (AV.int .i64) (zby (by omega)).symm⟩)
 | false =>
  cases h1:(decide ((↑a.length:Int) > (64:Int))) with
  | true =>
   have g0:=neF h0; have g1:=of_decide_eq_true h1; exact (oh (rk4ny _ a b c _).symm ⟨h0,h1,congrArg (AV.int .i64) (xv (by omega) (by omega)).symm⟩)
  | false =>
   cases h2:(decide ((↑b.length:Int) > (200:Int))) with
   | true =>
    have g0:=neF h0; have g1:=of_decide_eq_false h1; have g2:=of_decide_eq_true h2; exact (oh (zoT _ a b c _).symm ⟨h0,h1,h2,congrArg (AV.int .i64) (xv (by omega) (by omega)).symm⟩)
   | false =>
    cases h3:(decide ((↑c.length:Int) > (5000:Int))) with
    | true =>
     have g0:=neF h0; have g1:=of_decide_eq_false h1; have g2:=of_decide_eq_false h2; have g3:=of_decide_eq_true h3; exact (oh (zok _ a b c _).symm ⟨h0,h1,h2,h3,congrArg (AV.int .i64) (xv (by omega) (by omega)).symm⟩)
    | false =>
     have g0:=neF h0; have g1:=of_decide_eq_false h1; have g2:=of_decide_eq_false h2; have g3:=of_decide_eq_false h3; exact (oh (zmJ _ a b c _).symm ⟨h0,h1,h2,h3,congrArg (AV.int .i64) (jM (by omega) (by omega)).symm⟩)
section
set_option linter.unusedSectionVars false
variable (R:AV→Prop) (a b c:List UInt8) (_K:AM→Prop)
include R a b c _K
theorem rk5y:Obl P 65 (fun v _=>R v) 0 _K [.run 129,.know 50 true,.run 18,.done] ((zb P 65 [.agg [.int .i64 5,.str a,.str b,.str c]] GW))=((decide ((↑a.length:Int) > (64:Int))=true)∧(R (.int .i64 3))):=by kernel_rfl
theorem rk5ny:Obl P 65 (fun v _=>R v) 0 _K [.run 129,.know 50 false,.run 6,.know 56 true,.run 12,.done] ((zb P 65 [.agg [.int .i64 5,.str a,.str b,.str c]] GW))=((decide ((↑a.length:Int) > (64:Int))=false)∧(decide ((↑b.length:Int) > (200:Int))=true)∧(R (.int .i64 3))):=by kernel_rfl
theorem zp8:Obl P 65 (fun v _=>R v) 0 _K [.run 129,.know 50 false,.run 6,.know 56 false,.run 6,.know 61 true,.run 6,.done] ((zb P 65 [.agg [.int .i64 5,.str a,.str b,.str c]] GW))=((decide ((↑a.length:Int) > (64:Int))=false)∧(decide ((↑b.length:Int) > (200:Int))=false)∧(decide ((↑c.length:Int) > (5000:Int))=true)∧(R (.int .i64 3))):=by kernel_rfl
theorem zo1:Obl P 65 (fun v _=>R v) 0 _K [.run 129,.know 50 false,.run 6,.know 56 false,.run 6,.know 61 false,.run 7,.done] ((zb P 65 [.agg [.int .i64 5,.str a,.str b,.str c]] GW))=((decide ((↑a.length:Int) > (64:Int))=false)∧(decide ((↑b.length:Int) > (200:Int))=false)∧(decide ((↑c.length:Int) > (5000:Int))=false)∧(R (.int .i64 0))):=by kernel_rfl
end
theorem zpJ (a b c:List UInt8):Goal P 0 65 (fun v _=>v=.int .i64 (zbO 64 200 5000 a b c)) (zb P 65 [.agg [.int .i64 5,.str a,.str b,.str c]] GW):=by
 cases h0:(decide ((↑a.length:Int) > (64:Int))) with
 | true =>
  have g0:=of_decide_eq_true h0; exact (oh (rk5y _ a b c _).symm ⟨h0,congrArg (AV.int .i64) (xv (by omega) (by omega)).symm⟩)
 | false =>
  cases h1:(decide ((↑b.length:Int) > (200:Int))) with
  | true =>
   have g0:=of_decide_eq_false h0; have g1:=of_decide_eq_true h1; exact (oh (rk5ny _ a b c _).symm ⟨h0,h1,congrArg (AV.int .i64) (xv (by omega) (by omega)).symm⟩)
  | false =>
   cases h2:(decide ((↑c.length:Int) > (5000:Int))) with
   | true =>
    have g0:=of_decide_eq_false h0; have g1:=of_decide_eq_false h1; have g2:=of_decide_eq_true h2; exact (oh (zp8 _ a b c _).symm ⟨h0,h1,h2,congrArg (AV.int .i64) (xv (by omega) (by omega)).symm⟩)
   | false =>
    have g0:=of_decide_eq_false h0; have g1:=of_decide_eq_false h1; have g2:=of_decide_eq_false h2; exact (oh (zo1 _ a b c _).symm ⟨h0,h1,h2,congrArg (AV.int .i64) (jM (by omega) (by omega)).symm⟩)
section
set_option linter.unusedSectionVars false
variable (R:AV→Prop) (a b c:List UInt8) (_K:AM→Prop)
include R a b c _K
theorem rk6y:Obl P 65 (fun v _=>R v) 0 _K [.run 117,.know 45 true,.run 6,.done] ((zb P 65 [.agg [.int .i64 6,.str a,.str b,.str c]] GW))=(((!c==([]:List UInt8))=true)∧(R (.int .i64 2))):=by kernel_rfl
theorem rk6ny:Obl P 65 (fun v _=>R v) 0 _K [.run 117,.know 45 false,.run 10,.know 50 true,.run 18,.done] ((zb P 65 [.agg [.int .i64 6,.str a,.str b,.str c]] GW))=(((!c==([]:List UInt8))=false)∧(decide ((↑a.length:Int) > (64:Int))=true)∧(R (.int .i64 3))):=by kernel_rfl
theorem zow:Obl P 65 (fun v _=>R v) 0 _K [.run 117,.know 45 false,.run 10,.know 50 false,.run 6,.know 56 true,.run 12,.done] ((zb P 65 [.agg [.int .i64 6,.str a,.str b,.str c]] GW))=(((!c==([]:List UInt8))=false)∧(decide ((↑a.length:Int) > (64:Int))=false)∧(decide ((↑b.length:Int) > (200:Int))=true)∧(R (.int .i64 3))):=by kernel_rfl
theorem znp:Obl P 65 (fun v _=>R v) 0 _K [.run 117,.know 45 false,.run 10,.know 50 false,.run 6,.know 56 false,.run 6,.know 61 true,.run 6,.done] ((zb P 65 [.agg [.int .i64 6,.str a,.str b,.str c]] GW))=(((!c==([]:List UInt8))=false)∧(decide ((↑a.length:Int) > (64:Int))=false)∧(decide ((↑b.length:Int) > (200:Int))=false)∧(decide ((↑c.length:Int) > (5000:Int))=true)∧(R (.int .i64 3))):=by kernel_rfl
theorem zog:Obl P 65 (fun v _=>R v) 0 _K [.run 117,.know 45 false,.run 10,.know 50 false,.run 6,.know 56 false,.run 6,.know 61 false,.run 7,.done] ((zb P 65 [.agg [.int .i64 6,.str a,.str b,.str c]] GW))=(((!c==([]:List UInt8))=false)∧(decide ((↑a.length:Int) > (64:Int))=false)∧(decide ((↑b.length:Int) > (200:Int))=false)∧(decide ((↑c.length:Int) > (5000:Int))=false)∧(R (.int .i64 0))):=by kernel_rfl
end
theorem zpY (a b c:List UInt8):Goal P 0 65 (fun v _=>v=.int .i64 (zbO 64 200 0 a b c)) (zb P 65 [.agg [.int .i64 6,.str a,.str b,.str c]] GW):=by
 cases h0:((!c==([]:List UInt8))) with
 | true =>
  have g0:=neT h0; exact (oh (rk6y _ a b c _).symm ⟨h0,congrArg (AV.int .i64) (zby (by omega)).symm⟩)
 | false =>
  cases h1:(decide ((↑a.length:Int) > (64:Int))) with
  | true =>
   have g0:=neF h0; have g1:=of_decide_eq_true h1; exact (oh (rk6ny _ a b c _).symm ⟨h0,h1,congrArg (AV.int .i64) (xv (by omega) (by omega)).symm⟩)
  | false =>
   cases h2:(decide ((↑b.length:Int) > (200:Int))) with
   | true =>
    have g0:=neF h0; have g1:=of_decide_eq_false h1; have g2:=of_decide_eq_true h2; exact (oh (zow _ a b c _).symm ⟨h0,h1,h2,congrArg (AV.int .i64) (xv (by omega) (by omega)).symm⟩)
   | false =>
    cases h3:(decide ((↑c.length:Int) > (5000:Int))) with
    | true =>
     have g0:=neF h0; have g1:=of_decide_eq_false h1; have g2:=of_decide_eq_false h2; have g3:=of_decide_eq_true h3; exact (oh (znp _ a b c _).symm ⟨h0,h1,h2,h3,congrArg (AV.int .i64) (xv (by omega) (by omega)).symm⟩)
    | false =>
     have g0:=neF h0; have g1:=of_decide_eq_false h1; have g2:=of_decide_eq_false h2; have g3:=of_decide_eq_false h3; exact (oh (zog _ a b c _).symm ⟨h0,h1,h2,h3,congrArg (AV.int .i64) (jM (by omega) (by omega)).symm⟩)
section
set_option linter.unusedSectionVars false
variable (R:AV→Prop) (a b c:List UInt8) (_K:AM→Prop)
include R a b c _K
theorem rk7y:Obl P 65 (fun v _=>R v) 0 _K [.run 93,.know 37 true,.run 15,.done] ((zb P 65 [.agg [.int .i64 7,.str a,.str b,.str c]] GW))=(((!b==([]:List UInt8))=true)∧(R (.int .i64 2))):=by kernel_rfl
theorem rk7ny:Obl P 65 (fun v _=>R v) 0 _K [.run 93,.know 37 false,.run 9,.know 45 true,.run 6,.done] ((zb P 65 [.agg [.int .i64 7,.str a,.str b,.str c]] GW))=(((!b==([]:List UInt8))=false)∧((!c==([]:List UInt8))=true)∧(R (.int .i64 2))):=by kernel_rfl
theorem zpU:Obl P 65 (fun v _=>R v) 0 _K [.run 93,.know 37 false,.run 9,.know 45 false,.run 10,.know 50 true,.run 18,.done] ((zb P 65 [.agg [.int .i64 7,.str a,.str b,.str c]] GW))=(((!b==([]:List UInt8))=false)∧((!c==([]:List UInt8))=false)∧(decide ((↑a.length:Int) > (64:Int))=true)∧(R (.int .i64 3))):=by kernel_rfl
theorem zoc:Obl P 65 (fun v _=>R v) 0 _K [.run 93,.know 37 false,.run 9,.know 45 false,.run 10,.know 50 false,.run 6,.know 56 true,.run 12,.done] ((zb P 65 [.agg [.int .i64 7,.str a,.str b,.str c]] GW))=(((!b==([]:List UInt8))=false)∧((!c==([]:List UInt8))=false)∧(decide ((↑a.length:Int) > (64:Int))=false)∧(decide ((↑b.length:Int) > (200:Int))=true)∧(R (.int .i64 3))):=by kernel_rfl
theorem zlR:Obl P 65 (fun v _=>R v) 0 _K [.run 93,.know 37 false,.run 9,.know 45 false,.run 10,.know 50 false,.run 6,.know 56 false,.run 6,.know 61 true,.run 6,.done] ((zb P 65 [.agg [.int .i64 7,.str a,.str b,.str c]] GW))=(((!b==([]:List UInt8))=false)∧((!c==([]:List UInt8))=false)∧(decide ((↑a.length:Int) > (64:Int))=false)∧(decide ((↑b.length:Int) > (200:Int))=false)∧(decide ((↑c.length:Int) > (5000:Int))=true)∧(R (.int .i64 3))):=by kernel_rfl
theorem zk3:Obl P 65 (fun v _=>R v) 0 _K [.run 93,.know 37 false,.run 9,.know 45 false,.run 10,.know 50 false,.run 6,.know 56 false,.run 6,.know 61 false,.run 7,.done] ((zb P 65 [.agg [.int .i64 7,.str a,.str b,.str c]] GW))=(((!b==([]:List UInt8))=false)∧((!c==([]:List UInt8))=false)∧(decide ((↑a.length:Int) > (64:Int))=false)∧(decide ((↑b.length:Int) > (200:Int))=false)∧(decide ((↑c.length:Int) > (5000:Int))=false)∧(R (.int .i64 0))):=by kernel_rfl
end
theorem zp3 (a b c:List UInt8):Goal P 0 65 (fun v _=>v=.int .i64 (zbO 64 0 0 a b c)) (zb P 65 [.agg [.int .i64 7,.str a,.str b,.str c]] GW):=by
 cases h0:((!b==([]:List UInt8))) with
 | true =>
  have g0:=neT h0; exact (oh (rk7y _ a b c _).symm ⟨h0,congrArg (AV.int .i64) (zby (by omega)).symm⟩)
 | false =>
  cases h1:((!c==([]:List UInt8))) with
  | true =>
   have g0:=neF h0; have g1:=neT h1; exact (oh (rk7ny _ a b c _).symm ⟨h0,h1,congrArg (AV.int .i64) (zby (by omega)).symm⟩)
  | false =>
   cases h2:(decide ((↑a.length:Int) > (64:Int))) with
   | true =>
    have g0:=neF h0; have g1:=neF h1; have g2:=of_decide_eq_true h2; exact (oh (zpU _ a b c _).symm ⟨h0,h1,h2,congrArg (AV.int .i64) (xv (by omega) (by omega)).symm⟩)
   | false =>
    cases h3:(decide ((↑b.length:Int) > (200:Int))) with
    | true =>
     have g0:=neF h0; have g1:=neF h1; have g2:=of_decide_eq_false h2; have g3:=of_decide_eq_true h3; exact (oh (zoc _ a b c _).symm ⟨h0,h1,h2,h3,congrArg (AV.int .i64) (xv (by omega) (by omega)).symm⟩)
    | false =>
     cases h4:(decide ((↑c.length:Int) > (5000:Int))) with
     | true =>
      have g0:=neF h0; have g1:=neF h1; have g2:=of_decide_eq_false h2; have g3:=of_decide_eq_false h3; have g4:=of_decide_eq_true h4; exact (oh (zlR _ a b c _).symm ⟨h0,h1,h2,h3,h4,congrArg (AV.int .i64) (xv (by omega) (by omega)).symm⟩)
     | false =>
      have g0:=neF h0; have g1:=neF h1; have g2:=of_decide_eq_false h2; have g3:=of_decide_eq_false h3; have g4:=of_decide_eq_false h4; exact (oh (zk3 _ a b c _).symm ⟨h0,h1,h2,h3,h4,congrArg (AV.int .i64) (jM (by omega) (by omega)).symm⟩)
section
set_option linter.unusedSectionVars false
variable (R:AV→Prop) (a b c:List UInt8) (_K:AM→Prop)
include R a b c _K
theorem rk8y:Obl P 65 (fun v _=>R v) 0 _K [.run 96,.know 37 true,.run 15,.done] ((zb P 65 [.agg [.int .i64 8,.str a,.str b,.str c]] GW))=(((!b==([]:List UInt8))=true)∧(R (.int .i64 2))):=by kernel_rfl
theorem rk8ny:Obl P 65 (fun v _=>R v) 0 _K [.run 96,.know 37 false,.run 9,.know 45 true,.run 6,.done] ((zb P 65 [.agg [.int .i64 8,.str a,.str b,.str c]] GW))=(((!b==([]:List UInt8))=false)∧((!c==([]:List UInt8))=true)∧(R (.int .i64 2))):=by kernel_rfl
theorem zp2:Obl P 65 (fun v _=>R v) 0 _K [.run 96,.know 37 false,.run 9,.know 45 false,.run 10,.know 50 true,.run 18,.done] ((zb P 65 [.agg [.int .i64 8,.str a,.str b,.str c]] GW))=(((!b==([]:List UInt8))=false)∧((!c==([]:List UInt8))=false)∧(decide ((↑a.length:Int) > (64:Int))=true)∧(R (.int .i64 3))):=by kernel_rfl
theorem zmT:Obl P 65 (fun v _=>R v) 0 _K [.run 96,.know 37 false,.run 9,.know 45 false,.run 10,.know 50 false,.run 6,.know 56 true,.run 12,.done] ((zb P 65 [.agg [.int .i64 8,.str a,.str b,.str c]] GW))=(((!b==([]:List UInt8))=false)∧((!c==([]:List UInt8))=false)∧(decide ((↑a.length:Int) > (64:Int))=false)∧(decide ((↑b.length:Int) > (200:Int))=true)∧(R (.int .i64 3))):=by kernel_rfl
theorem zk8:Obl P 65 (fun v _=>R v) 0 _K [.run 96,.know 37 false,.run 9,.know 45 false,.run 10,.know 50 false,.run 6,.know 56 false,.run 6,.know 61 true,.run 6,.done] ((zb P 65 [.agg [.int .i64 8,.str a,.str b,.str c]] GW))=(((!b==([]:List UInt8))=false)∧((!c==([]:List UInt8))=false)∧(decide ((↑a.length:Int) > (64:Int))=false)∧(decide ((↑b.length:Int) > (200:Int))=false)∧(decide ((↑c.length:Int) > (5000:Int))=true)∧(R (.int .i64 3))):=by kernel_rfl
theorem zkA:Obl P 65 (fun v _=>R v) 0 _K [.run 96,.know 37 false,.run 9,.know 45 false,.run 10,.know 50 false,.run 6,.know 56 false,.run 6,.know 61 false,.run 7,.done] ((zb P 65 [.agg [.int .i64 8,.str a,.str b,.str c]] GW))=(((!b==([]:List UInt8))=false)∧((!c==([]:List UInt8))=false)∧(decide ((↑a.length:Int) > (64:Int))=false)∧(decide ((↑b.length:Int) > (200:Int))=false)∧(decide ((↑c.length:Int) > (5000:Int))=false)∧(R (.int .i64 0))):=by kernel_rfl
end
theorem zpy (a b c:List UInt8):Goal P 0 65 (fun v _=>v=.int .i64 (zbO 64 0 0 a b c)) (zb P 65 [.agg [.int .i64 8,.str a,.str b,.str c]] GW):=by
 cases h0:((!b==([]:List UInt8))) with
 | true =>
  have g0:=neT h0; exact (oh (rk8y _ a b c _).symm ⟨h0,congrArg (AV.int .i64) (zby (by omega)).symm⟩)
 | false =>
  cases h1:((!c==([]:List UInt8))) with
  | true =>
   have g0:=neF h0; have g1:=neT h1; exact (oh (rk8ny _ a b c _).symm ⟨h0,h1,congrArg (AV.int .i64) (zby (by omega)).symm⟩)
  | false =>
   cases h2:(decide ((↑a.length:Int) > (64:Int))) with
   | true =>
    have g0:=neF h0; have g1:=neF h1; have g2:=of_decide_eq_true h2; exact (oh (zp2 _ a b c _).symm ⟨h0,h1,h2,congrArg (AV.int .i64) (xv (by omega) (by omega)).symm⟩)
   | false =>
    cases h3:(decide ((↑b.length:Int) > (200:Int))) with
    | true =>
     have g0:=neF h0; have g1:=neF h1; have g2:=of_decide_eq_false h2; have g3:=of_decide_eq_true h3; exact (oh (zmT _ a b c _).symm ⟨h0,h1,h2,h3,congrArg (AV.int .i64) (xv (by omega) (by omega)).symm⟩)
    | false =>
     cases h4:(decide ((↑c.length:Int) > (5000:Int))) with
     | true =>
      have g0:=neF h0; have g1:=neF h1; have g2:=of_decide_eq_false h2; have g3:=of_decide_eq_false h3; have g4:=of_decide_eq_true h4; exact (oh (zk8 _ a b c _).symm ⟨h0,h1,h2,h3,h4,congrArg (AV.int .i64) (xv (by omega) (by omega)).symm⟩)
     | false =>
      have g0:=neF h0; have g1:=neF h1; have g2:=of_decide_eq_false h2; have g3:=of_decide_eq_false h3; have g4:=of_decide_eq_false h4; exact (oh (zkA _ a b c _).symm ⟨h0,h1,h2,h3,h4,congrArg (AV.int .i64) (jM (by omega) (by omega)).symm⟩)
section
set_option linter.unusedSectionVars false
variable (R:AV→Prop) (a b c:List UInt8) (_K:AM→Prop)
include R a b c _K
theorem rk9y:Obl P 65 (fun v _=>R v) 0 _K [.run 129,.know 50 true,.run 18,.done] ((zb P 65 [.agg [.int .i64 9,.str a,.str b,.str c]] GW))=((decide ((↑a.length:Int) > (64:Int))=true)∧(R (.int .i64 3))):=by kernel_rfl
theorem rk9ny:Obl P 65 (fun v _=>R v) 0 _K [.run 129,.know 50 false,.run 6,.know 56 true,.run 12,.done] ((zb P 65 [.agg [.int .i64 9,.str a,.str b,.str c]] GW))=((decide ((↑a.length:Int) > (64:Int))=false)∧(decide ((↑b.length:Int) > (200:Int))=true)∧(R (.int .i64 3))):=by kernel_rfl
theorem zpH:Obl P 65 (fun v _=>R v) 0 _K [.run 129,.know 50 false,.run 6,.know 56 false,.run 6,.know 61 true,.run 6,.done] ((zb P 65 [.agg [.int .i64 9,.str a,.str b,.str c]] GW))=((decide ((↑a.length:Int) > (64:Int))=false)∧(decide ((↑b.length:Int) > (200:Int))=false)∧(decide ((↑c.length:Int) > (5000:Int))=true)∧(R (.int .i64 3))):=by kernel_rfl
theorem zpD:Obl P 65 (fun v _=>R v) 0 _K [.run 129,.know 50 false,.run 6,.know 56 false,.run 6,.know 61 false,.run 7,.done] ((zb P 65 [.agg [.int .i64 9,.str a,.str b,.str c]] GW))=((decide ((↑a.length:Int) > (64:Int))=false)∧(decide ((↑b.length:Int) > (200:Int))=false)∧(decide ((↑c.length:Int) > (5000:Int))=false)∧(R (.int .i64 0))):=by kernel_rfl
end
theorem zpA (a b c:List UInt8):Goal P 0 65 (fun v _=>v=.int .i64 (zbO 64 200 5000 a b c)) (zb P 65 [.agg [.int .i64 9,.str a,.str b,.str c]] GW):=by
 cases h0:(decide ((↑a.length:Int) > (64:Int))) with
 | true =>
  have g0:=of_decide_eq_true h0; exact (oh (rk9y _ a b c _).symm ⟨h0,congrArg (AV.int .i64) (xv (by omega) (by omega)).symm⟩)
 | false =>
  cases h1:(decide ((↑b.length:Int) > (200:Int))) with
  | true =>
   have g0:=of_decide_eq_false h0; have g1:=of_decide_eq_true h1; exact (oh (rk9ny _ a b c _).symm ⟨h0,h1,congrArg (AV.int .i64) (xv (by omega) (by omega)).symm⟩)
  | false =>
   cases h2:(decide ((↑c.length:Int) > (5000:Int))) with
   | true =>
    have g0:=of_decide_eq_false h0; have g1:=of_decide_eq_false h1; have g2:=of_decide_eq_true h2; exact (oh (zpH _ a b c _).symm ⟨h0,h1,h2,congrArg (AV.int .i64) (xv (by omega) (by omega)).symm⟩)
   | false =>
    have g0:=of_decide_eq_false h0; have g1:=of_decide_eq_false h1; have g2:=of_decide_eq_false h2; exact (oh (zpD _ a b c _).symm ⟨h0,h1,h2,congrArg (AV.int .i64) (jM (by omega) (by omega)).symm⟩)
theorem rkky (R:AV→Prop)(k:Int)(a b c:List UInt8)(_K:AM→Prop):Obl P 65 (fun v _=>R v) 0 _K [.run 12,.know 9 true,.run 11,.done] ((zb P 65 [.agg [.int .i64 k,.str a,.str b,.str c]] GW))=((decide (k<(1:Int))=true)∧(R (.int .i64 2))):=by kernel_rfl
theorem rkkny (R:AV→Prop)(k:Int)(a b c:List UInt8)(_K:AM→Prop):Obl P 65 (fun v _=>R v) 0 _K [.run 12,.know 9 false,.run 5,.know 13 true,.run 6,.done] ((zb P 65 [.agg [.int .i64 k,.str a,.str b,.str c]] GW))=((decide (k<(1:Int))=false)∧(decide (k > (9:Int))=true)∧(R (.int .i64 2))):=by kernel_rfl
theorem zoH (k:Int)(a b c:List UInt8):Goal P 0 65 (fun v _=>v=.int .i64 (chk k a b c)) (zb P 65 [.agg [.int .i64 k,.str a,.str b,.str c]] GW):=by
 by_cases h1:k<1
 · exact (oh (rkky _ k a b c _).symm ⟨decide_eq_true h1,congrArg (AV.int .i64) (if_pos (.inl h1)).symm⟩)
 by_cases h9:k > 9
 · exact (oh (rkkny _ k a b c _).symm ⟨decide_eq_false h1,decide_eq_true h9,congrArg (AV.int .i64) (if_pos (.inr h9)).symm⟩)
 have hk:k=1∨k=2∨k=3∨k=4∨k=5∨k=6∨k=7∨k=8∨k=9:=by omega
 rcases hk with rfl | rfl | rfl | rfl | rfl | rfl | rfl | rfl | rfl
 · exact zpR a b c
 · exact zpg a b c
 · exact zpS a b c
 · exact zps a b c
 · exact zpJ a b c
 · exact zpY a b c
 · exact zp3 a b c
 · exact zpy a b c
 · exact zpA a b c
end Go.Proofs.YtdbfpjgnlfejmaaDoor.mq
end
section
set_option maxRecDepth 100000
set_option linter.unusedVariables false
namespace Go.Proofs.YtdbfpjgnlfejmaaDoor.dg
open Go Ev mq
theorem rdB (R:AV→AHeap→Prop)(s p p2 p3 l l2 l3 l4:List UInt8)(n:Int)(b b2 b3 b4:Bool)(G:T (T AV))(_K:AM→Prop):Obl P 24 (fun v h=>R v h) 0 _K [.run 16,.callh [(1,0,[])] [0] (.int .u64 n) (RH l b G),.run 10,.callh [(1,0,[])] [0] (.str p) (RH l2 b2 G),.run 7,.callh [(1,0,[])] [0] (.str p2) (RH l3 b3 G),.run 7,.callh [(1,0,[])] [0] (.str p3) (RH l4 b4 G),.run 20,.know 8 false,.run 24,.can 0 [0] [2,3] [],.run 1,.done] ((zb P 24 [.str s] G))=((Goal P 1 60 (fun v h=>v=AV.int .u64 n∧h=RH l b G) (ze P 60 [.ptr 0 0 0] ⟨(.node .leaf (some (.cells (.node (.node .leaf (some (.bool false)) .leaf) (some (.str s)) .leaf) 2 86 0 0 1 0 false .leaf)) .leaf),1,G⟩))∧(Goal P 1 62 (fun v h=>v=AV.str p∧h=RH l2 b2 G) (ze P 62 [.ptr 0 0 0] ⟨(.node .leaf (some (.cells (.node (.node .leaf (some (.bool b)) .leaf) (some (.str l)) .leaf) 2 86 0 0 1 0 false .leaf)) .leaf),1,G⟩))∧(Goal P 1 62 (fun v h=>v=AV.str p2∧h=RH l3 b3 G) (ze P 62 [.ptr 0 0 0] ⟨(.node .leaf (some (.cells (.node (.node .leaf (some (.bool b2)) .leaf) (some (.str l2)) .leaf) 2 86 0 0 1 0 false .leaf)) .leaf),1,G⟩))∧(Goal P 1 62 (fun v h=>v=AV.str p3∧h=RH l4 b4 G) (ze P 62 [.ptr 0 0 0] ⟨(.node .leaf (some (.cells (.node (.node .leaf (some (.bool b3)) .leaf) (some (.str l3)) .leaf) 2 86 0 0 1 0 false .leaf)) .leaf),1,G⟩))∧((!b4)=false)∧(R (.tup [.agg [.int .i64 0,.str [],.str [],.str []],.int .i64 4]) (⟨(.node .leaf (some (.cells (.node (.node (.node .leaf (some (.str [])) .leaf) (some (.str [])) .leaf) (some (.int .i64 0)) (.node .leaf (some (.str [])) .leaf)) 4 39 0 0 1 0 false .leaf)) .leaf),1,G⟩))):=by kernel_rfl
theorem rdL (R:AV→AHeap→Prop)(s p p2 p3 l l2 l3 l4:List UInt8)(n:Int)(b b2 b3 b4:Bool)(G:T (T AV))(_K:AM→Prop):Obl P 24 (fun v h=>R v h) 0 _K [.run 16,.callh [(1,0,[])] [0] (.int .u64 n) (RH l b G),.run 10,.callh [(1,0,[])] [0] (.str p) (RH l2 b2 G),.run 7,.callh [(1,0,[])] [0] (.str p2) (RH l3 b3 G),.run 7,.callh [(1,0,[])] [0] (.str p3) (RH l4 b4 G),.run 20,.know 8 true,.run 12,.know 26 true,.run 12,.can 0 [0] [2,3] [],.run 1,.done] ((zb P 24 [.str s] G))=((Goal P 1 60 (fun v h=>v=AV.int .u64 n∧h=RH l b G) (ze P 60 [.ptr 0 0 0] ⟨(.node .leaf (some (.cells (.node (.node .leaf (some (.bool false)) .leaf) (some (.str s)) .leaf) 2 86 0 0 1 0 false .leaf)) .leaf),1,G⟩))∧(Goal P 1 62 (fun v h=>v=AV.str p∧h=RH l2 b2 G) (ze P 62 [.ptr 0 0 0] ⟨(.node .leaf (some (.cells (.node (.node .leaf (some (.bool b)) .leaf) (some (.str l)) .leaf) 2 86 0 0 1 0 false .leaf)) .leaf),1,G⟩))∧(Goal P 1 62 (fun v h=>v=AV.str p2∧h=RH l3 b3 G) (ze P 62 [.ptr 0 0 0] ⟨(.node .leaf (some (.cells (.node (.node .leaf (some (.bool b2)) .leaf) (some (.str l2)) .leaf) 2 86 0 0 1 0 false .leaf)) .leaf),1,G⟩))∧(Goal P 1 62 (fun v h=>v=AV.str p3∧h=RH l4 b4 G) (ze P 62 [.ptr 0 0 0] ⟨(.node .leaf (some (.cells (.node (.node .leaf (some (.bool b3)) .leaf) (some (.str l3)) .leaf) 2 86 0 0 1 0 false .leaf)) .leaf),1,G⟩))∧((!b4)=true)∧((!l4==([]:List UInt8))=true)∧(R (.tup [.agg [.int .i64 0,.str [],.str [],.str []],.int .i64 4]) (⟨(.node .leaf (some (.cells (.node (.node (.node .leaf (some (.str [])) .leaf) (some (.str [])) .leaf) (some (.int .i64 0)) (.node .leaf (some (.str [])) .leaf)) 4 39 0 0 1 0 false .leaf)) .leaf),1,G⟩))):=by kernel_rfl
theorem rdC (R:AV→AHeap→Prop)(s p p2 p3 l l2 l3 l4:List UInt8)(n e:Int)(b b2 b3 b4:Bool)(G:T (T AV))(_K:AM→Prop):Obl P 24 (fun v h=>R v h) 0 _K [.run 16,.callh [(1,0,[])] [0] (.int .u64 n) (RH l b G),.run 10,.callh [(1,0,[])] [0] (.str p) (RH l2 b2 G),.run 7,.callh [(1,0,[])] [0] (.str p2) (RH l3 b3 G),.run 7,.callh [(1,0,[])] [0] (.str p3) (RH l4 b4 G),.run 20,.know 8 true,.run 12,.know 26 false,.run 2,.callv [0] (.int .i64 e),.run 3,.know 30 true,.run 7,.can 0 [0] [2,3] [],.run 1,.done] ((zb P 24 [.str s] G))=((Goal P 1 60 (fun v h=>v=AV.int .u64 n∧h=RH l b G) (ze P 60 [.ptr 0 0 0] ⟨(.node .leaf (some (.cells (.node (.node .leaf (some (.bool false)) .leaf) (some (.str s)) .leaf) 2 86 0 0 1 0 false .leaf)) .leaf),1,G⟩))∧(Goal P 1 62 (fun v h=>v=AV.str p∧h=RH l2 b2 G) (ze P 62 [.ptr 0 0 0] ⟨(.node .leaf (some (.cells (.node (.node .leaf (some (.bool b)) .leaf) (some (.str l)) .leaf) 2 86 0 0 1 0 false .leaf)) .leaf),1,G⟩))∧(Goal P 1 62 (fun v h=>v=AV.str p2∧h=RH l3 b3 G) (ze P 62 [.ptr 0 0 0] ⟨(.node .leaf (some (.cells (.node (.node .leaf (some (.bool b2)) .leaf) (some (.str l2)) .leaf) 2 86 0 0 1 0 false .leaf)) .leaf),1,G⟩))∧(Goal P 1 62 (fun v h=>v=AV.str p3∧h=RH l4 b4 G) (ze P 62 [.ptr 0 0 0] ⟨(.node .leaf (some (.cells (.node (.node .leaf (some (.bool b3)) .leaf) (some (.str l3)) .leaf) 2 86 0 0 1 0 false .leaf)) .leaf),1,G⟩))∧((!b4)=true)∧((!l4==([]:List UInt8))=false)∧(Goal P 0 65 (fun v _=>v=AV.int .i64 e) (zb P 65 [.agg [.int .i64 (IntKind.i64.wrap (if decide ((100:Int)<n)=true then (100:Int) else n)),.str p,.str p2,.str p3]] G))∧((e != (0:Int))=true)∧(R (.tup [.agg [.int .i64 0,.str [],.str [],.str []],.int .i64 4]) (⟨(.node .leaf (some (.cells (.node (.node (.node .leaf (some (.str [])) .leaf) (some (.str [])) .leaf) (some (.int .i64 0)) (.node .leaf (some (.str [])) .leaf)) 4 39 0 0 1 0 false .leaf)) .leaf),1,G⟩))):=by kernel_rfl
theorem rdO (R:AV→AHeap→Prop)(s p p2 p3 l l2 l3 l4:List UInt8)(n e:Int)(b b2 b3 b4:Bool)(G:T (T AV))(_K:AM→Prop):Obl P 24 (fun v h=>R v h) 0 _K [.run 16,.callh [(1,0,[])] [0] (.int .u64 n) (RH l b G),.run 10,.callh [(1,0,[])] [0] (.str p) (RH l2 b2 G),.run 7,.callh [(1,0,[])] [0] (.str p2) (RH l3 b3 G),.run 7,.callh [(1,0,[])] [0] (.str p3) (RH l4 b4 G),.run 20,.know 8 true,.run 12,.know 26 false,.run 2,.callv [0] (.int .i64 e),.run 3,.know 30 false,.run 8,.can 0 [0] [2,3] [],.run 1,.done] ((zb P 24 [.str s] G))=((Goal P 1 60 (fun v h=>v=AV.int .u64 n∧h=RH l b G) (ze P 60 [.ptr 0 0 0] ⟨(.node .leaf (some (.cells (.node (.node .leaf (some (.bool false)) .leaf) (some (.str s)) .leaf) 2 86 0 0 1 0 false .leaf)) .leaf),1,G⟩))∧(Goal P 1 62 (fun v h=>v=AV.str p∧h=RH l2 b2 G) (ze P 62 [.ptr 0 0 0] ⟨(.node .leaf (some (.cells (.node (.node .leaf (some (.bool b)) .leaf) (some (.str l)) .leaf) 2 86 0 0 1 0 false .leaf)) .leaf),1,G⟩))∧(Goal P 1 62 (fun v h=>v=AV.str p2∧h=RH l3 b3 G) (ze P 62 [.ptr 0 0 0] ⟨(.node .leaf (some (.cells (.node (.node .leaf (some (.bool b2)) .leaf) (some (.str l2)) .leaf) 2 86 0 0 1 0 false .leaf)) .leaf),1,G⟩))∧(Goal P 1 62 (fun v h=>v=AV.str p3∧h=RH l4 b4 G) (ze P 62 [.ptr 0 0 0] ⟨(.node .leaf (some (.cells (.node (.node .leaf (some (.bool b3)) .leaf) (some (.str l3)) .leaf) 2 86 0 0 1 0 false .leaf)) .leaf),1,G⟩))∧((!b4)=true)∧((!l4==([]:List UInt8))=false)∧(Goal P 0 65 (fun v _=>v=AV.int .i64 e) (zb P 65 [.agg [.int .i64 (IntKind.i64.wrap (if decide ((100:Int)<n)=true then (100:Int) else n)),.str p,.str p2,.str p3]] G))∧((e != (0:Int))=false)∧(R (.tup [.agg [.int .i64 (IntKind.i64.wrap (if decide ((100:Int)<n)=true then (100:Int) else n)),.str p,.str p2,.str p3],.int .i64 0]) (⟨(.node .leaf (some (.cells (.node (.node (.node .leaf (some (.str p3)) .leaf) (some (.str p)) .leaf) (some (.int .i64 (IntKind.i64.wrap (if decide ((100:Int)<n)=true then (100:Int) else n)))) (.node .leaf (some (.str p2)) .leaf)) 4 39 0 0 1 0 false .leaf)) .leaf),1,G⟩))):=by kernel_rfl
theorem zkY:Goal P 1 60 (fun v H=>v=.int .u64 0∧H=RH [] true GW) (ze P 60 [.ptr 0 0 0] (RH [] true GW)) :=
 (og (rz60 _ (true) GW _).symm ⟨rfl,rfl⟩)
theorem zhJ:Goal P 1 62 (fun v H=>v=.str []∧H=RH [] true GW) (ze P 62 [.ptr 0 0 0] (RH [] true GW)) :=
 (oh (zkc [] [] true true 0 _ _).symm ⟨zkY,by decide,by decide,by decide,rfl,rfl⟩)
theorem zlO (l:List UInt8):(∃ n l2,0≤n∧n≤18446744073709551615∧l=row n++l2∧Goal P 1 60 (fun v H=>v=.int .u64 n∧H=RH l2 false GW) (ze P 60 [.ptr 0 0 0] (RH l false GW)))∨Goal P 1 60 (fun v H=>v=.int .u64 0∧H=RH [] true GW) (ze P 60 [.ptr 0 0 0] (RH l false GW)):=by
 cases hp:xf l with
 | none=>exact .inr (zfp l hp)
 | some r =>
  obtain ⟨n,k⟩:=r
  obtain ⟨p0,p1,p2,p3,p4⟩:=zM hp
  exact .inl ⟨n,l.drop k,p0,p1,by rw [p2,List.take_append_drop],ju l hp⟩
theorem zmi (l:List UInt8)(hl:l.length≤100000):(∃ p l2,l=row (p.length:Nat)++(p++l2)∧Goal P 1 62 (fun v H=>v=.str p∧H=RH l2 false GW) (ze P 62 [.ptr 0 0 0] (RH l false GW)))∨Goal P 1 62 (fun v H=>v=.str []∧H=RH [] true GW) (ze P 62 [.ptr 0 0 0] (RH l false GW)):=by
 cases hp:xf l with
 | none=>exact .inr (jX l hl (.inl hp))
 | some r =>
  obtain ⟨n,k⟩:=r
  obtain ⟨p0,p1,p2,p3,p4⟩:=zM hp
  by_cases h:n≤((l.length - k:Nat):Int)
  · have e:(((l.drop k).take n.toNat).length:Nat)=n.toNat:=by
     rw [List.length_take,List.length_drop]
     omega
    have e2:(((l.drop k).take n.toNat).length:Int)=n:=by omega
    exact .inl ⟨_,_,by rw [e2,← List.drop_drop,List.take_append_drop,p2,List.take_append_drop],zbX l hl hp h⟩
  · exact .inr (jX l hl (.inr ⟨n,k,hp,by omega⟩))
theorem zhf {n:Int}(h0:0≤n)(h1:n≤18446744073709551615)(rest:List UInt8):Goal P 1 60 (fun v H=>v=.int .u64 n∧H=RH rest false GW) (ze P 60 [.ptr 0 0 0] (RH (row n++rest) false GW)):=by
 have g:=ju _ (xp n h0 h1 rest)
 rw [zU] at g
 exact g
theorem zcq {p rest:List UInt8}(hl:(row (p.length:Nat)++(p++rest)).length≤100000):Goal P 1 62 (fun v H=>v=.str p∧H=RH rest false GW) (ze P 62 [.ptr 0 0 0] (RH (row (p.length:Nat)++(p++rest)) false GW)):=by
 have hl2:=hl
 simp only [List.length_append] at hl2
 have g:=zbX _ hl (xp (p.length:Nat) (by omega) (by omega) (p++rest)) (by simp only [List.length_append]; omega)
 rw [← List.drop_drop,zU,Int.toNat_natCast,zaa,zU] at g
 exact g
abbrev RQBad (m:AM):Prop:=Goal P 0 24 (fun v h=>v=.tup [.agg [.int .i64 0,.str [],.str [],.str []],.int .i64 4]∧h=HQ 0 [] [] [] GW) m
theorem zkp {n:Int}(h0:0≤n):IntKind.i64.wrap (if decide ((100:Int)<n)=true then (100:Int) else n)=if n≤100 then n else 100:=by
 by_cases h:n≤100
 · rw [if_pos h,if_neg (by rw [decide_eq_true_iff]; omega)]
   exact IntWalk.i64_in _ (by omega)
 · rw [if_neg h,if_pos (decide_eq_true (by omega))]
   exact IntWalk.i64_in _ (by omega)
theorem zm2 {n:Int}{a b c:List UInt8}(h0:0≤n)(h:chk (IntKind.i64.wrap (if decide ((100:Int)<n)=true then (100:Int) else n)) a b c=0):IntKind.i64.wrap (if decide ((100:Int)<n)=true then (100:Int) else n)=n:=by
 obtain ⟨_,h9,_⟩:=zcd h
 rw [zkp h0] at h9 ⊢
 split at h9
 · rw [if_pos (by assumption)]
 · omega
section
variable {s:List UInt8}
theorem znU (hs:s.length≤100000)(hno:∀ k a b c,chk k a b c=0→lay k a b c≠s):RQBad (zb P 24 [.str s] GW):=by
 have len:∀ (x y:List UInt8),(x++y).length≤100000→y.length≤100000:=fun x y h=>by
  rw [List.length_append] at h
  omega
 rcases zlO s with ⟨n,l1,n0,n1,e0,g0⟩ | g0
 · have m1:=len _ _ (e0▸hs)
   rcases zmi l1 m1 with ⟨a,l2,e1,g1⟩ | g1
   · have m2:=len _ _ (len _ _ (e1▸m1))
     rcases zmi l2 m2 with ⟨b,l3,e2,g2⟩ | g2
     · have m3:=len _ _ (len _ _ (e2▸m2))
       rcases zmi l3 m3 with ⟨c,l4,e3,g3⟩ | g3
       · by_cases h4:l4=[]
         · have hne:chk (IntKind.i64.wrap (if decide ((100:Int)<n)=true then (100:Int) else n)) a b c≠0:=by
            intro hc
            have hn:=zm2 n0 hc
            rw [hn] at hc
            apply hno n a b c hc
            rw [zgu hc,e0,e1,e2,e3,h4,List.append_nil]
           exact (og (rdC _ (s) (a) (b) (c) (l1) (l2) (l3) (l4) (n) (chk (IntKind.i64.wrap (if decide ((100:Int)<n)=true then (100:Int) else n)) a b c) (false) (false) (false) (false) GW _).symm ⟨g0,g1,g2,g3,rfl,neF h4,zoH _ a b c,by simpa using hne,rfl,rfl⟩)
         · exact (og (rdL _ (s) (a) (b) (c) (l1) (l2) (l3) (l4) (n) (false) (false) (false) (false) GW _).symm ⟨g0,g1,g2,g3,rfl,neT h4,rfl,rfl⟩)
       · exact (og (rdB _ (s) (a) (b) ([]) (l1) (l2) (l3) ([]) (n) (false) (false) (false) (true) GW _).symm ⟨g0,g1,g2,g3,rfl,rfl,rfl⟩)
     · exact (og (rdB _ (s) (a) ([]) ([]) (l1) (l2) ([]) ([]) (n) (false) (false) (true) (true) GW _).symm ⟨g0,g1,g2,zhJ,rfl,rfl,rfl⟩)
   · exact (og (rdB _ (s) ([]) ([]) ([]) (l1) ([]) ([]) ([]) (n) (false) (true) (true) (true) GW _).symm ⟨g0,g1,zhJ,zhJ,rfl,rfl,rfl⟩)
 · exact (og (rdB _ (s) ([]) ([]) ([]) ([]) ([]) ([]) ([]) (0) (true) (true) (true) (true) GW _).symm ⟨g0,zhJ,zhJ,zhJ,rfl,rfl,rfl⟩)
theorem zp5 (hs:s.length≤100000){k:Int}{a b c:List UInt8}(hc:chk k a b c=0)(he:lay k a b c=s) :
 Goal P 0 24 (fun v h=>v=.tup [.agg [.int .i64 k,.str a,.str b,.str c],.int .i64 0]∧h=HQ k a b c GW) (zb P 24 [.str s] GW):=by
 obtain ⟨l1,l2,l3,l4,l5⟩:=zcd hc
 rw [zgu hc] at he
 have r0:=zu k
 have r1:=zu (a.length:Nat)
 have r2:=zu (b.length:Nat)
 have r3:=zu (c.length:Nat)
 subst he
 have g0:=zhf (n:=k) (by omega) (by omega) (row (a.length:Nat)++(a++(row (b.length:Nat)++(b++(row (c.length:Nat)++c)))))
 have g1:=zcq (p:=a) (rest:=row (b.length:Nat)++(b++(row (c.length:Nat)++c))) (by simp only [List.length_append]; omega)
 have g2:=zcq (p:=b) (rest:=row (c.length:Nat)++c) (by simp only [List.length_append]; omega)
 have g3:=zcq (p:=c) (rest:=[]) (by simp only [List.length_append,List.length_nil]; omega)
 rw [List.append_nil] at g3
 have w:IntKind.i64.wrap (if decide ((100:Int)<k)=true then (100:Int) else k)=k:=by
  rw [zkp (by omega),if_pos (by omega)]
 have ck:=zoH (IntKind.i64.wrap (if decide ((100:Int)<k)=true then (100:Int) else k)) a b c
 refine (og (rdO _ _ (a) (b) (c) _ _ _ ([]) (k) _ _ _ _ (false) GW _).symm ⟨g0,g1,g2,g3,rfl,neF rfl,ck,?_,?_⟩)
 · rw [w,hc]
   rfl
 · rw [w]
   exact ⟨rfl,rfl⟩
end
end Go.Proofs.YtdbfpjgnlfejmaaDoor.dg
end
