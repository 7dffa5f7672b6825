import Derived.Test.YtdbfpjgnlfejmaaDoorG00
import Derived.Test.YtdbfpjgnlfejmaaDoorG01
import Derived.Test.YtdbfpjgnlfejmaaDoorG02
import Derived.Test.YtdbfpjgnlfejmaaDoorG03
import Derived.Test.YtdbfpjgnlfejmaaDoorG04
import Derived.Test.YtdbfpjgnlfejmaaDoorG05
section
set_option maxRecDepth 100000
set_option linter.unusedVariables false
namespace Go.Proofs.YtdbfpjgnlfejmaaDoor.dg
open Go Ev mq
def zf:Nat→Dg:=fun _=>zd
noncomputable def RsA (cell:Nat→AV) (i:Int) (n z:Nat) (G:T (T AV)):AM:=⟨⟨13,69,(.node (.node (.node .leaf (some (.nils 0 0)) .leaf) none .leaf) (some (.slg 0 0 0 n 0)) (.node (.node .leaf (some (.int .i64 i)) .leaf) none .leaf)),
 [.code (cd P (13:Nat) [(1:Nat),(1:Nat),(0:Nat),(1:Nat),(0:Nat),(0:Nat)]),.inLoop (cd P (13:Nat) [(1:Nat),(1:Nat),(0:Nat),(1:Nat),(0:Nat),(0:Nat)]),.inBlock 0,.code (cd P (13:Nat) [(1:Nat),(1:Nat),(1:Nat)])],[],.run,CallKind.normal,none⟩,
 [],
 ⟨(.node .leaf (some (.cells (.fn fun c=>some (cell c)) z 35 0 0 1 0 false .leaf)) .leaf),1,G⟩⟩
noncomputable def RsB (cell cell':Nat→AV) (i:Int) (n m z y:Nat) (G:T (T AV)):AM:=⟨⟨13,69,(.node (.node (.node .leaf (some (.slg 1 0 0 m 0)) .leaf) none .leaf) (some (.slg 0 0 0 n 0)) (.node (.node .leaf (some (.int .i64 i)) .leaf) none .leaf)),
 [.code (cd P (13:Nat) [(1:Nat),(1:Nat),(0:Nat),(1:Nat),(0:Nat),(0:Nat)]),.inLoop (cd P (13:Nat) [(1:Nat),(1:Nat),(0:Nat),(1:Nat),(0:Nat),(0:Nat)]),.inBlock 0,.code (cd P (13:Nat) [(1:Nat),(1:Nat),(1:Nat)])],[],.run,CallKind.normal,none⟩,
 [],
 ⟨(.node (.node .leaf (some (.cells (.fn fun c=>some (cell' c)) y 35 0 0 1 0 false .leaf)) .leaf) (some (.cells (.fn fun c=>some (cell c)) z 35 0 0 1 0 false .leaf)) .leaf),2,G⟩⟩
noncomputable def RsD (cell:Nat→AV) (i:Int) (n z:Nat) (G:T (T AV)):AM:=⟨⟨13,69,(.node (.node (.node .leaf (some (.nils 0 0)) .leaf) none (.node .leaf (some (.int .i64 0)) .leaf)) (some (.slg 0 0 0 n 0)) (.node (.node .leaf (some (.int .i64 i)) .leaf) none .leaf)),
 [.code (cd P (13:Nat) [(1:Nat),(1:Nat),(0:Nat),(1:Nat),(0:Nat),(0:Nat),(1:Nat),(0:Nat),(0:Nat),(1:Nat),(1:Nat),(0:Nat),(0:Nat),(0:Nat)]),.inLoop (cd P (13:Nat) [(1:Nat),(1:Nat),(0:Nat),(1:Nat),(0:Nat),(0:Nat),(1:Nat),(0:Nat),(0:Nat),(1:Nat),(1:Nat),(0:Nat),(0:Nat),(0:Nat)]),.inBlock 2,.code (cd P (13:Nat) [(1:Nat),(1:Nat),(0:Nat),(1:Nat),(0:Nat),(0:Nat),(1:Nat),(0:Nat),(0:Nat),(1:Nat),(1:Nat),(1:Nat)]),.inBlock 1,.code (cd P (13:Nat) [(1:Nat),(1:Nat),(0:Nat),(1:Nat),(0:Nat),(0:Nat),(1:Nat),(1:Nat)]),.inLoop (cd P (13:Nat) [(1:Nat),(1:Nat),(0:Nat),(1:Nat),(0:Nat),(0:Nat)]),.inBlock 0,.code (cd P (13:Nat) [(1:Nat),(1:Nat),(1:Nat)])],[],.run,CallKind.normal,none⟩,
 [],
 ⟨(.node .leaf (some (.cells (.fn fun c=>some (cell c)) z 35 0 0 1 0 false .leaf)) .leaf),1,G⟩⟩
noncomputable def RsC (cell cell':Nat→AV) (i u:Int) (n m z y:Nat) (G:T (T AV)):AM:=⟨⟨13,69,(.node (.node (.node .leaf (some (.slg 1 0 0 m 0)) .leaf) none (.node .leaf (some (.int .i64 u)) .leaf)) (some (.slg 0 0 0 n 0)) (.node (.node .leaf (some (.int .i64 i)) .leaf) none .leaf)),
 [.code (cd P (13:Nat) [(1:Nat),(1:Nat),(0:Nat),(1:Nat),(0:Nat),(0:Nat),(1:Nat),(0:Nat),(0:Nat),(1:Nat),(1:Nat),(0:Nat),(0:Nat),(0:Nat)]),.inLoop (cd P (13:Nat) [(1:Nat),(1:Nat),(0:Nat),(1:Nat),(0:Nat),(0:Nat),(1:Nat),(0:Nat),(0:Nat),(1:Nat),(1:Nat),(0:Nat),(0:Nat),(0:Nat)]),.inBlock 2,.code (cd P (13:Nat) [(1:Nat),(1:Nat),(0:Nat),(1:Nat),(0:Nat),(0:Nat),(1:Nat),(0:Nat),(0:Nat),(1:Nat),(1:Nat),(1:Nat)]),.inBlock 1,.code (cd P (13:Nat) [(1:Nat),(1:Nat),(0:Nat),(1:Nat),(0:Nat),(0:Nat),(1:Nat),(1:Nat)]),.inLoop (cd P (13:Nat) [(1:Nat),(1:Nat),(0:Nat),(1:Nat),(0:Nat),(0:Nat)]),.inBlock 0,.code (cd P (13:Nat) [(1:Nat),(1:Nat),(1:Nat)])],[],.run,CallKind.normal,none⟩,
 [],
 ⟨(.node (.node .leaf (some (.cells (.fn fun c=>some (cell' c)) y 35 0 0 1 0 false .leaf)) .leaf) (some (.cells (.fn fun c=>some (cell c)) z 35 0 0 1 0 false .leaf)) .leaf),2,G⟩⟩
noncomputable def Ls (p q:List UInt8) (i:Int) (G:T (T AV)):AM:=⟨⟨72,37,(.node (.node .leaf (some (.str q)) (.node .leaf (some (.int .i64 i)) .leaf)) (some (.str p)) .leaf),
 [.code (cd P (72:Nat) [(1:Nat),(0:Nat),(1:Nat),(0:Nat),(0:Nat)]),.inLoop (cd P (72:Nat) [(1:Nat),(0:Nat),(1:Nat),(0:Nat),(0:Nat)]),.inBlock 0,.code (cd P (72:Nat) [(1:Nat),(1:Nat)])],[],.run,CallKind.normal,none⟩,
 [],
 ⟨.leaf,0,G⟩⟩
noncomputable def Er (cell cell':Nat→AV) (s:List UInt8) (i:Int) (m z y:Nat) (G:T (T AV)):AM:=⟨⟨15,41,(.node (.node (.node .leaf (some (.str s)) .leaf) none .leaf) (some (.slg 1 0 0 m 0)) (.node (.node .leaf (some (.int .i64 i)) .leaf) none .leaf)),
 [.code (cd P (15:Nat) [(1:Nat),(1:Nat),(1:Nat),(0:Nat),(1:Nat),(0:Nat),(0:Nat)]),.inLoop (cd P (15:Nat) [(1:Nat),(1:Nat),(1:Nat),(0:Nat),(1:Nat),(0:Nat),(0:Nat)]),.inBlock 0,.code (cd P (15:Nat) [(1:Nat),(1:Nat),(1:Nat),(1:Nat)])],[],.run,CallKind.normal,none⟩,
 [],
 ⟨(.node (.node .leaf (some (.cells (.fn fun c=>some (cell' c)) y 35 0 0 1 0 false .leaf)) .leaf) (some (.cells (.fn fun c=>some (cell c)) z 35 0 0 1 0 false .leaf)) .leaf),2,G⟩⟩
noncomputable def Ez (cell:Nat→AV) (s:List UInt8) (z:Nat) (G:T (T AV)):AM:=⟨⟨15,41,(.node (.node (.node .leaf (some (.str s)) .leaf) none .leaf) (some (.nils 0 0)) (.node (.node .leaf (some (.int .i64 0)) .leaf) none .leaf)),
 [.code (cd P (15:Nat) [(1:Nat),(1:Nat),(1:Nat),(0:Nat),(1:Nat),(0:Nat),(0:Nat)]),.inLoop (cd P (15:Nat) [(1:Nat),(1:Nat),(1:Nat),(0:Nat),(1:Nat),(0:Nat),(0:Nat)]),.inBlock 0,.code (cd P (15:Nat) [(1:Nat),(1:Nat),(1:Nat),(1:Nat)])],[],.run,CallKind.normal,none⟩,
 [],
 ⟨(.node .leaf (some (.cells (.fn fun c=>some (cell c)) z 35 0 0 1 0 false .leaf)) .leaf),1,G⟩⟩
section
set_option linter.unusedSectionVars false
variable (R:AV→AHeap→Prop) (cell cell' cell2 cell3:Nat→AV) (p q:List UInt8) (a c e g i:Int) (u n m z y y2 cp off:Nat) (b b2 b3:Bool) (G:T (T AV)) (K:AM→Prop)
include R cell cell' cell2 cell3 p q a c e g i u n m z y y2 cp off b b2 b3 G K
theorem rCz:Obl P 13 (fun v h=>R v h) 1 K [.run 8,.know 23 false,.run 21,.know 40 false,.run 22,.op,.opw false,.run 7,.op,.op,.slot 60 (.agg [.str p,.int .i64 a,.int .i64 c]),.run 1,.opw false,.run 2,.told 2 (.fn fun c=>some (cell2 c)) y2,.run 4,.op,.slot 66 (.slg 1 0 (0+(u:Int).toNat*3) 0 (0+(u:Int).toNat)),.res (.val (.slg 2 1 0 ((u:Int).toNat - 0+1) 0) ⟨(.node (.node (.node .leaf (some (.cells (.node (.node .leaf (some (.int .i64 a)) .leaf) (some (.str p)) (.node .leaf (some (.int .i64 c)) .leaf)) 3 35 0 0 1 0 false .leaf)) .leaf) (some (.cells (.fn fun c=>some (cell' c)) y 35 0 0 1 0 false .leaf)) .leaf) (some (.cells (.fn fun c=>some (cell c)) z 35 0 0 1 0 false .leaf)) (.node .leaf (some (.cells (.fn fun c=>some (cell2 c)) y2 35 1 1 2 0 false .leaf)) .leaf)),4,G⟩),.run 9,.can 1 [0,2] [0,3,4] []] ((RsC cell cell' i (u:Int) n m z y G))=((decide ((↑u:Int)<(↑m:Int))=false)∧(decide ((↑u:Int)<(↑m:Int))=false)∧((0:Int)≤(↑u:Int)∧(↑u:Int)≤(↑m:Int))∧((0+((↑u:Int).toNat - 0)*3≤y∧∀ (k:Nat),k<((↑u:Int).toNat - 0)*DS→∃ v,(T.fn fun c=>some (cell' c)).get (0+k)=some v∧v.one=true)∧0<(↑u:Int).toNat - 0∧xz ((↑u:Int).toNat - 0) 32=true)∧((0:Int)≤i∧i<(↑n:Int))∧(0+i.toNat*3+3≤z)∧(AV.agg [cell (0+i.toNat*3),cell (0+i.toNat*3+1),cell (0+i.toNat*3+2)]=AV.agg [AV.str p,AV.int .i64 a,AV.int .i64 c])∧((0+1*DS≤3∧∀ (k:Nat),k<1*DS→∃ v,((T.leaf.node (some (AV.int .i64 a)) T.leaf).node (some (AV.str p)) (T.leaf.node (some (AV.int .i64 c)) T.leaf)).get (0+k)=some v∧v.one=true)∧0<1∧0+((↑u:Int).toNat - 0)*3≤((↑u:Int).toNat - 0)*3∧0≤0+((↑u:Int).toNat - 0)*3∧0=0*DS∧xz ((↑u:Int).toNat - 0+1) 32=true∧((↑u:Int).toNat - 0)*3<0+((↑u:Int).toNat - 0+1)*3)∧(xZ (y2) ((.fn fun c=>some (cell2 c))) ((.fn fun k=>bif (0+((↑u:Int).toNat - 0)*DS).ble k&&k.blt (0+((↑u:Int).toNat - 0)*DS+1*DS) then (fun k=>((T.leaf.node (some (AV.int .i64 a)) T.leaf).node (some (AV.str p)) (T.leaf.node (some (AV.int .i64 c)) T.leaf)).get (0+k)) (k - (0+((↑u:Int).toNat - 0)*DS)) else (T.fn fun k=>(T.fn fun c=>some (cell' c)).get (0+k)).get k)))∧(y2=0+((↑u:Int).toNat - 0)*3+3)∧((0:Int)≤(↑u:Int)∧(↑u:Int)≤(↑m:Int))∧(AV.slg 1 0 (0+(↑u:Int).toNat*3) (m - (↑u:Int).toNat) (0+(↑u:Int).toNat)=AV.slg 1 0 (0+(↑u:Int).toNat*3) 0 (0+(↑u:Int).toNat))∧(zpv (wu P { objs:=((T.leaf.node (some (AObj.cells ((T.leaf.node (some (AV.int .i64 a)) T.leaf).node (some (AV.str p)) (T.leaf.node (some (AV.int .i64 c)) T.leaf)) 3 35 0 0 1 0 false T.leaf)) T.leaf).node (some (AObj.cells (T.fn fun c=>some (cell' c)) y 35 0 0 1 0 false T.leaf)) T.leaf).node (some (AObj.cells (T.fn fun c=>some (cell c)) z 35 0 0 1 0 false T.leaf)) (T.leaf.node (some (AObj.cells (T.fn fun c=>some (cell2 c)) y2 35 1 1 2 0 false T.leaf)) T.leaf),next:=4,glob:=G } 22 false (AV.slg 2 1 0 ((↑u:Int).toNat - 0+1) 0) (AV.slg 1 0 (0+(↑u:Int).toNat*3) 0 (0+(↑u:Int).toNat)))=some (AR.val (AV.slg 2 1 0 ((↑u:Int).toNat - 0+1) 0) { objs:=((T.leaf.node (some (AObj.cells ((T.leaf.node (some (AV.int .i64 a)) T.leaf).node (some (AV.str p)) (T.leaf.node (some (AV.int .i64 c)) T.leaf)) 3 35 0 0 1 0 false T.leaf)) T.leaf).node (some (AObj.cells (T.fn fun c=>some (cell' c)) y 35 0 0 1 0 false T.leaf)) T.leaf).node (some (AObj.cells (T.fn fun c=>some (cell c)) z 35 0 0 1 0 false T.leaf)) (T.leaf.node (some (AObj.cells (T.fn fun c=>some (cell2 c)) y2 35 1 1 2 0 false T.leaf)) T.leaf),next:=4,glob:=G }))∧(za fun c=>some (cell c))∧(za fun c=>some (cell2 c))∧K (RsB cell cell2 (IntKind.i64.wrap (i+(1:Int))) n ((↑u:Int).toNat - 0+1) z y2 G)):=by kernel_rfl
theorem rCyy:Obl P 13 (fun v h=>R v h) 1 K [.run 8,.know 23 true,.run 2,.op,.op,.slot 27 (.agg [.str q,.int .i64 e,.int .i64 g]),.run 2,.op,.op,.slot 31 (.agg [.str p,.int .i64 a,.int .i64 c]),.run 1,(.callv [0,1] (.bool b2)),.run 2,.know 33 true,.run 10,.can 1 [0,1] [0,3,4,5] []] ((RsC cell cell' i (u:Int) n m z y G))=((decide ((↑u:Int)<(↑m:Int))=true)∧((0:Int)≤(↑u:Int)∧(↑u:Int)<(↑m:Int))∧(0+(↑u:Int).toNat*3+3≤y)∧(AV.agg [cell' (0+(↑u:Int).toNat*3),cell' (0+(↑u:Int).toNat*3+1),cell' (0+(↑u:Int).toNat*3+2)]=AV.agg [AV.str q,AV.int .i64 e,AV.int .i64 g])∧((0:Int)≤i∧i<(↑n:Int))∧(0+i.toNat*3+3≤z)∧(AV.agg [cell (0+i.toNat*3),cell (0+i.toNat*3+1),cell (0+i.toNat*3+2)]=AV.agg [AV.str p,AV.int .i64 a,AV.int .i64 c])∧(Goal P 0 46 (fun x x_1=>x=AV.bool b2) (zb P 46 [.agg [.str q,.int .i64 e,.int .i64 g],.agg [.str p,.int .i64 a,.int .i64 c]] G))∧(b2=true)∧(za fun c=>some (cell c))∧(za fun c=>some (cell' c))∧K (RsC cell cell' i (IntKind.i64.wrap ((↑u:Int)+(1:Int))) n m z y G)):=by kernel_rfl
theorem rCyny:Obl P 13 (fun v h=>R v h) 1 K [.run 8,.know 23 true,.run 2,.op,.op,.slot 27 (.agg [.str q,.int .i64 e,.int .i64 g]),.run 2,.op,.op,.slot 31 (.agg [.str p,.int .i64 a,.int .i64 c]),.run 1,(.callv [0,1] (.bool b2)),.run 2,.know 33 false,.run 10,.know 40 true,.run 2,.op,.op,.slot 44 (.agg [.str q,.int .i64 e,.int .i64 g]),.run 2,.op,.op,.slot 48 (.agg [.str p,.int .i64 a,.int .i64 c]),.isv (.bool b3),.run 2,.know 50 true,.run 8,.can 1 [0,1] [0,3,4] []] ((RsC cell cell' i (u:Int) n m z y G))=((decide ((↑u:Int)<(↑m:Int))=true)∧((0:Int)≤(↑u:Int)∧(↑u:Int)<(↑m:Int))∧(0+(↑u:Int).toNat*3+3≤y)∧(AV.agg [cell' (0+(↑u:Int).toNat*3),cell' (0+(↑u:Int).toNat*3+1),cell' (0+(↑u:Int).toNat*3+2)]=AV.agg [AV.str q,AV.int .i64 e,AV.int .i64 g])∧((0:Int)≤i∧i<(↑n:Int))∧(0+i.toNat*3+3≤z)∧(AV.agg [cell (0+i.toNat*3),cell (0+i.toNat*3+1),cell (0+i.toNat*3+2)]=AV.agg [AV.str p,AV.int .i64 a,AV.int .i64 c])∧(Goal P 0 46 (fun x x_1=>x=AV.bool b2) (zb P 46 [.agg [.str q,.int .i64 e,.int .i64 g],.agg [.str p,.int .i64 a,.int .i64 c]] G))∧(b2=false)∧(decide ((↑u:Int)<(↑m:Int))=true)∧((0:Int)≤(↑u:Int)∧(↑u:Int)<(↑m:Int))∧(0+(↑u:Int).toNat*3+3≤y)∧(AV.agg [cell' (0+(↑u:Int).toNat*3),cell' (0+(↑u:Int).toNat*3+1),cell' (0+(↑u:Int).toNat*3+2)]=AV.agg [AV.str q,AV.int .i64 e,AV.int .i64 g])∧((0:Int)≤i∧i<(↑n:Int))∧(0+i.toNat*3+3≤z)∧(AV.agg [cell (0+i.toNat*3),cell (0+i.toNat*3+1),cell (0+i.toNat*3+2)]=AV.agg [AV.str p,AV.int .i64 a,AV.int .i64 c])∧(∀ (h:AHeap),vd P h BinOp.eql 35 (zi (Operand.tmp 44) || zi (Operand.tmp 48)) (AV.agg [AV.str q,AV.int .i64 e,AV.int .i64 g]) (AV.agg [AV.str p,AV.int .i64 a,AV.int .i64 c])=some (AV.bool b3))∧(b3=true)∧(za fun c=>some (cell c))∧(za fun c=>some (cell' c))∧K (RsB cell cell' (IntKind.i64.wrap (i+(1:Int))) n m z y G)):=by kernel_rfl
theorem rCynn:Obl P 13 (fun v h=>R v h) 1 K [.run 8,.know 23 true,.run 2,.op,.op,.slot 27 (.agg [.str q,.int .i64 e,.int .i64 g]),.run 2,.op,.op,.slot 31 (.agg [.str p,.int .i64 a,.int .i64 c]),.run 1,(.callv [0,1] (.bool b2)),.run 2,.know 33 false,.run 10,.know 40 true,.run 2,.op,.op,.slot 44 (.agg [.str q,.int .i64 e,.int .i64 g]),.run 2,.op,.op,.slot 48 (.agg [.str p,.int .i64 a,.int .i64 c]),.isv (.bool b3),.run 2,.know 50 false,.run 11,.op,.opw false,.run 7,.op,.op,.slot 60 (.agg [.str p,.int .i64 a,.int .i64 c]),.run 1,.opw false,.run 6,.op,.opw false,.told 2 (.fn fun c=>some (cell2 c)) y2,.run 9,.can 1 [0,2] [0,3,4] []] ((RsC cell cell' i (u:Int) n m z y G))=((decide ((↑u:Int)<(↑m:Int))=true)∧((0:Int)≤(↑u:Int)∧(↑u:Int)<(↑m:Int))∧(0+(↑u:Int).toNat*3+3≤y)∧(AV.agg [cell' (0+(↑u:Int).toNat*3),cell' (0+(↑u:Int).toNat*3+1),cell' (0+(↑u:Int).toNat*3+2)]=AV.agg [AV.str q,AV.int .i64 e,AV.int .i64 g])∧((0:Int)≤i∧i<(↑n:Int))∧(0+i.toNat*3+3≤z)∧(AV.agg [cell (0+i.toNat*3),cell (0+i.toNat*3+1),cell (0+i.toNat*3+2)]=AV.agg [AV.str p,AV.int .i64 a,AV.int .i64 c])∧(Goal P 0 46 (fun x x_1=>x=AV.bool b2) (zb P 46 [.agg [.str q,.int .i64 e,.int .i64 g],.agg [.str p,.int .i64 a,.int .i64 c]] G))∧(b2=false)∧(decide ((↑u:Int)<(↑m:Int))=true)∧((0:Int)≤(↑u:Int)∧(↑u:Int)<(↑m:Int))∧(0+(↑u:Int).toNat*3+3≤y)∧(AV.agg [cell' (0+(↑u:Int).toNat*3),cell' (0+(↑u:Int).toNat*3+1),cell' (0+(↑u:Int).toNat*3+2)]=AV.agg [AV.str q,AV.int .i64 e,AV.int .i64 g])∧((0:Int)≤i∧i<(↑n:Int))∧(0+i.toNat*3+3≤z)∧(AV.agg [cell (0+i.toNat*3),cell (0+i.toNat*3+1),cell (0+i.toNat*3+2)]=AV.agg [AV.str p,AV.int .i64 a,AV.int .i64 c])∧(∀ (h:AHeap),vd P h BinOp.eql 35 (zi (Operand.tmp 44) || zi (Operand.tmp 48)) (AV.agg [AV.str q,AV.int .i64 e,AV.int .i64 g]) (AV.agg [AV.str p,AV.int .i64 a,AV.int .i64 c])=some (AV.bool b3))∧(b3=false)∧((0:Int)≤(↑u:Int)∧(↑u:Int)≤(↑m:Int))∧((0+((↑u:Int).toNat - 0)*3≤y∧∀ (k:Nat),k<((↑u:Int).toNat - 0)*DS→∃ v,(T.fn fun c=>some (cell' c)).get (0+k)=some v∧v.one=true)∧0<(↑u:Int).toNat - 0∧xz ((↑u:Int).toNat - 0) 32=true)∧((0:Int)≤i∧i<(↑n:Int))∧(0+i.toNat*3+3≤z)∧(AV.agg [cell (0+i.toNat*3),cell (0+i.toNat*3+1),cell (0+i.toNat*3+2)]=AV.agg [AV.str p,AV.int .i64 a,AV.int .i64 c])∧((0+1*DS≤3∧∀ (k:Nat),k<1*DS→∃ v,((T.leaf.node (some (AV.int .i64 a)) T.leaf).node (some (AV.str p)) (T.leaf.node (some (AV.int .i64 c)) T.leaf)).get (0+k)=some v∧v.one=true)∧0<1∧0+((↑u:Int).toNat - 0)*3≤((↑u:Int).toNat - 0)*3∧0≤0+((↑u:Int).toNat - 0)*3∧0=0*DS∧xz ((↑u:Int).toNat - 0+1) 32=true∧((↑u:Int).toNat - 0)*3<0+((↑u:Int).toNat - 0+1)*3)∧((0:Int)≤(↑u:Int)∧(↑u:Int)≤(↑m:Int))∧((0+(↑u:Int).toNat*3+(m - (↑u:Int).toNat)*3≤y∧∀ (k:Nat),k<(m - (↑u:Int).toNat)*DS→∃ v,(T.fn fun c=>some (cell' c)).get (0+(↑u:Int).toNat*3+k)=some v∧v.one=true)∧0<m - (↑u:Int).toNat∧0+((↑u:Int).toNat - 0+1)*3≤0+((↑u:Int).toNat - 0)*3+3∧0≤0+((↑u:Int).toNat - 0+1)*3∧0=0*DS∧xz ((↑u:Int).toNat - 0+1+(m - (↑u:Int).toNat)) 32=true∧0+((↑u:Int).toNat - 0)*3+3<0+((↑u:Int).toNat - 0+1+(m - (↑u:Int).toNat))*3)∧(xZ (y2) ((.fn fun c=>some (cell2 c))) ((.fn fun k=>bif (0+((↑u:Int).toNat - 0+1)*DS).ble k&&k.blt (0+((↑u:Int).toNat - 0+1)*DS+(m - (↑u:Int).toNat)*DS) then (fun k=>(T.fn fun c=>some (cell' c)).get (0+(↑u:Int).toNat*3+k)) (k - (0+((↑u:Int).toNat - 0+1)*DS)) else (T.fn fun k=>bif (0+((↑u:Int).toNat - 0)*DS).ble k&&k.blt (0+((↑u:Int).toNat - 0)*DS+1*DS) then (fun k=>((T.leaf.node (some (AV.int .i64 a)) T.leaf).node (some (AV.str p)) (T.leaf.node (some (AV.int .i64 c)) T.leaf)).get (0+k)) (k - (0+((↑u:Int).toNat - 0)*DS)) else (T.fn fun k=>(T.fn fun c=>some (cell' c)).get (0+k)).get k).get k)))∧(y2=0+((↑u:Int).toNat - 0+1)*3+(m - (↑u:Int).toNat)*3)∧(za fun c=>some (cell c))∧(za fun c=>some (cell2 c))∧K (RsB cell cell2 (IntKind.i64.wrap (i+(1:Int))) n ((↑u:Int).toNat - 0+1+(m - (↑u:Int).toNat)) z y2 G)):=by kernel_rfl
theorem zpb:Obl P 13 (fun v h=>R v h) 1 K [.run 8,.know 23 true,.run 2,.op,.op,.slot 27 (.agg [.str q,.int .i64 e,.int .i64 g]),.run 2,.op,.op,.slot 31 (.agg [.str p,.int .i64 a,.int .i64 c]),.run 1,(.callv [0,1] (.bool b2)),.run 2,.know 33 false,.run 10,.know 40 true,.run 2,.op,.op,.slot 44 (.agg [.str q,.int .i64 e,.int .i64 g]),.run 2,.op,.op,.slot 48 (.agg [.str p,.int .i64 a,.int .i64 c]),.isv (.bool b3),.run 2,.know 50 false,.run 20,.op,.op,.slot 60 (.agg [.str p,.int .i64 a,.int .i64 c]),.run 9,.opw false,.told 3 (.fn fun c=>some (cell2 c)) y2,.run 9,.can 1 [0,3] [0,3,4] []] ((RsC cell cell' i 0 n m z y G))=((decide (Int.ofNat 0<(↑m:Int))=true)∧((0:Int)≤Int.ofNat 0∧Int.ofNat 0<(↑m:Int))∧(3≤y)∧(AV.agg [cell' 0,cell' 1,cell' 2]=AV.agg [AV.str q,AV.int .i64 e,AV.int .i64 g])∧((0:Int)≤i∧i<(↑n:Int))∧(0+i.toNat*3+3≤z)∧(AV.agg [cell (0+i.toNat*3),cell (0+i.toNat*3+1),cell (0+i.toNat*3+2)]=AV.agg [AV.str p,AV.int .i64 a,AV.int .i64 c])∧(Goal P 0 46 (fun x x_1=>x=AV.bool b2) (zb P 46 [.agg [.str q,.int .i64 e,.int .i64 g],.agg [.str p,.int .i64 a,.int .i64 c]] G))∧(b2=false)∧(decide (Int.ofNat 0<(↑m:Int))=true)∧((0:Int)≤Int.ofNat 0∧Int.ofNat 0<(↑m:Int))∧(3≤y)∧(AV.agg [cell' 0,cell' 1,cell' 2]=AV.agg [AV.str q,AV.int .i64 e,AV.int .i64 g])∧((0:Int)≤i∧i<(↑n:Int))∧(0+i.toNat*3+3≤z)∧(AV.agg [cell (0+i.toNat*3),cell (0+i.toNat*3+1),cell (0+i.toNat*3+2)]=AV.agg [AV.str p,AV.int .i64 a,AV.int .i64 c])∧(∀ (h:AHeap),vd P h BinOp.eql 35 (zi (Operand.tmp 44) || zi (Operand.tmp 48)) (AV.agg [AV.str q,AV.int .i64 e,AV.int .i64 g]) (AV.agg [AV.str p,AV.int .i64 a,AV.int .i64 c])=some (AV.bool b3))∧(b3=false)∧((0:Int)≤i∧i<(↑n:Int))∧(0+i.toNat*3+3≤z)∧(AV.agg [cell (0+i.toNat*3),cell (0+i.toNat*3+1),cell (0+i.toNat*3+2)]=AV.agg [AV.str p,AV.int .i64 a,AV.int .i64 c])∧((0+m*3≤y∧∀ (k:Nat),k<m*DS→∃ v,(T.fn fun c=>some (cell' c)).get (0+k)=some v∧v.one=true)∧0<m∧0+1*DS≤3∧0≤0+1*DS∧0=0*DS∧xz (1+m) 32=true∧3<0+(1+m)*3)∧(xZ (y2) ((.fn fun c=>some (cell2 c))) ((.fn fun k=>bif (0+1*DS).ble k&&k.blt (0+1*DS+m*DS) then (fun k=>(T.fn fun c=>some (cell' c)).get (0+k)) (k - (0+1*DS)) else ((T.leaf.node (some (AV.int .i64 a)) T.leaf).node (some (AV.str p)) (T.leaf.node (some (AV.int .i64 c)) T.leaf)).get k)))∧(y2=3+m*3)∧(za fun c=>some (cell c))∧(za fun c=>some (cell2 c))∧K (RsB cell cell2 (IntKind.i64.wrap (i+(1:Int))) n (1+m) z y2 G)):=by kernel_rfl
theorem rD:Obl P 13 (fun v h=>R v h) 1 K [.run 60,.op,.op,.slot 60 (.agg [.str p,.int .i64 a,.int .i64 c]),.run 19,.told 2 (.fn fun c=>some (cell2 c)) y2,.can 1 [0,2] [0,3,4] []] ((RsD cell i n z G))=(((0:Int)≤i∧i<(↑n:Int))∧(0+i.toNat*3+3≤z)∧(AV.agg [cell (0+i.toNat*3),cell (0+i.toNat*3+1),cell (0+i.toNat*3+2)]=AV.agg [AV.str p,AV.int .i64 a,AV.int .i64 c])∧(xZ (y2) ((.fn fun c=>some (cell2 c))) ((.node (.node .leaf (some (.int .i64 a)) .leaf) (some (.str p)) (.node .leaf (some (.int .i64 c)) .leaf))))∧(y2=3)∧(za fun c=>some (cell c))∧(za fun c=>some (cell2 c))∧K (RsB cell cell2 (IntKind.i64.wrap (i+(1:Int))) n 1 z y2 G)):=by kernel_rfl
theorem rAyy:Obl P 13 (fun v h=>R v h) 1 K [.run 8,.know 10 true,.run 9,.op,.op,.slot 16 (.agg [.str p,.int .i64 a,.int .i64 c]),.run 1,(.callv [0] (.bool b)),.run 2,.know 18 true,.run 8,.can 1 [0] [0,3,4] []] ((RsA cell i n z G))=((decide (i<(↑n:Int))=true)∧((0:Int)≤i∧i<(↑n:Int))∧(0+i.toNat*3+3≤z)∧(AV.agg [cell (0+i.toNat*3),cell (0+i.toNat*3+1),cell (0+i.toNat*3+2)]=AV.agg [AV.str p,AV.int .i64 a,AV.int .i64 c])∧(Goal P 0 45 (fun x x_1=>x=AV.bool b) (zb P 45 [.agg [.str p,.int .i64 a,.int .i64 c]] G))∧((!b)=true)∧(za fun c=>some (cell c))∧K (RsA cell (IntKind.i64.wrap (i+(1:Int))) n z G)):=by kernel_rfl
theorem rAyn:Obl P 13 (fun v h=>R v h) 1 K [.run 8,.know 10 true,.run 9,.op,.op,.slot 16 (.agg [.str p,.int .i64 a,.int .i64 c]),.run 1,(.callv [0] (.bool b)),.run 2,.know 18 false,.run 9,.can 1 [0] [0,3,4,5] []] ((RsA cell i n z G))=((decide (i<(↑n:Int))=true)∧((0:Int)≤i∧i<(↑n:Int))∧(0+i.toNat*3+3≤z)∧(AV.agg [cell (0+i.toNat*3),cell (0+i.toNat*3+1),cell (0+i.toNat*3+2)]=AV.agg [AV.str p,AV.int .i64 a,AV.int .i64 c])∧(Goal P 0 45 (fun x x_1=>x=AV.bool b) (zb P 45 [.agg [.str p,.int .i64 a,.int .i64 c]] G))∧((!b)=false)∧(za fun c=>some (cell c))∧K (RsD cell i n z G)):=by kernel_rfl
end
theorem rAn (R:AV→AHeap→Prop)(cell cell' cell2 cell3:Nat→AV)(p q:List UInt8)(a c e g i:Int)(u n m z y y2 cp off:Nat)(b b2 b3:Bool)(G:T (T AV))(_K:AM→Prop):Obl P 13 (fun v h=>R v h) 1 _K [.run 8,.know 10 false,.run 8,.done] ((RsA cell i n z G))=((decide (i<(↑n:Int))=false)∧(R (.nils 0 0) (⟨(.node .leaf (some (.cells (.fn fun c=>some (cell c)) z 35 0 0 1 0 false .leaf)) .leaf),1,G⟩))):=by kernel_rfl
theorem rByy (R:AV→AHeap→Prop)(cell cell' cell2 cell3:Nat→AV)(p q:List UInt8)(a c e g i:Int)(u n m z y y2 cp off:Nat)(b b2 b3:Bool)(G:T (T AV))(K:AM→Prop):Obl P 13 (fun v h=>R v h) 1 K [.run 8,.know 10 true,.run 9,.op,.op,.slot 16 (.agg [.str p,.int .i64 a,.int .i64 c]),.run 1,(.callv [0] (.bool b)),.run 2,.know 18 true,.run 8,.can 1 [0,1] [0,3,4] []] ((RsB cell cell' i n m z y G))=((decide (i<(↑n:Int))=true)∧((0:Int)≤i∧i<(↑n:Int))∧(0+i.toNat*3+3≤z)∧(AV.agg [cell (0+i.toNat*3),cell (0+i.toNat*3+1),cell (0+i.toNat*3+2)]=AV.agg [AV.str p,AV.int .i64 a,AV.int .i64 c])∧(Goal P 0 45 (fun x x_1=>x=AV.bool b) (zb P 45 [.agg [.str p,.int .i64 a,.int .i64 c]] G))∧((!b)=true)∧(za fun c=>some (cell c))∧(za fun c=>some (cell' c))∧K (RsB cell cell' (IntKind.i64.wrap (i+(1:Int))) n m z y G)):=by kernel_rfl
theorem rByn (R:AV→AHeap→Prop)(cell cell' cell2 cell3:Nat→AV)(p q:List UInt8)(a c e g i:Int)(u n m z y y2 cp off:Nat)(b b2 b3:Bool)(G:T (T AV))(K:AM→Prop):Obl P 13 (fun v h=>R v h) 1 K [.run 8,.know 10 true,.run 9,.op,.op,.slot 16 (.agg [.str p,.int .i64 a,.int .i64 c]),.run 1,(.callv [0] (.bool b)),.run 2,.know 18 false,.run 9,.can 1 [0,1] [0,3,4,5] []] ((RsB cell cell' i n m z y G))=((decide (i<(↑n:Int))=true)∧((0:Int)≤i∧i<(↑n:Int))∧(0+i.toNat*3+3≤z)∧(AV.agg [cell (0+i.toNat*3),cell (0+i.toNat*3+1),cell (0+i.toNat*3+2)]=AV.agg [AV.str p,AV.int .i64 a,AV.int .i64 c])∧(Goal P 0 45 (fun x x_1=>x=AV.bool b) (zb P 45 [.agg [.str p,.int .i64 a,.int .i64 c]] G))∧((!b)=false)∧(za fun c=>some (cell c))∧(za fun c=>some (cell' c))∧K (RsC cell cell' i (Int.ofNat 0) n m z y G)):=by kernel_rfl
theorem rBn (R:AV→AHeap→Prop)(cell cell' cell2 cell3:Nat→AV)(p q:List UInt8)(a c e g i:Int)(u n m z y y2 cp off:Nat)(b b2 b3:Bool)(G:T (T AV))(_K:AM→Prop):Obl P 13 (fun v h=>R v h) 1 _K [.run 8,.know 10 false,.run 8,.done] ((RsB cell cell' i n m z y G))=((decide (i<(↑n:Int))=false)∧(R (.slg 1 0 0 m 0) (⟨(.node (.node .leaf (some (.cells (.fn fun c=>some (cell' c)) y 35 0 0 1 0 false .leaf)) .leaf) (some (.cells (.fn fun c=>some (cell c)) z 35 0 0 1 0 false .leaf)) .leaf),2,G⟩))):=by kernel_rfl
theorem rs (R:AV→AHeap→Prop)(cell cell' cell2 cell3:Nat→AV)(p q:List UInt8)(a c e g i:Int)(u n m z y y2 cp off:Nat)(b b2 b3:Bool)(G:T (T AV))(K:AM→Prop):Obl P 13 (fun v h=>R v h) 1 K [.run 15,.can 1 [0] [0,3,4] []] ((ze P 13 [.slg 0 0 0 n 0] ⟨(.node .leaf (some (.cells (.fn fun c=>some (cell c)) z 35 0 0 1 0 false .leaf)) .leaf),1,G⟩))=((za fun c=>some (cell c))∧K (RsA cell (Int.ofNat 0) n z G)):=by kernel_rfl
theorem rn (R:AV→AHeap→Prop)(cell cell' cell2 cell3:Nat→AV)(p q:List UInt8)(a c e g i:Int)(u n m z y y2 cp off:Nat)(b b2 b3:Bool)(G:T (T AV))(_K:AM→Prop):Obl P 13 (fun v h=>R v h) 0 _K [.run 31,.can 0 [] [2] [],.done] ((ze P 13 [.nils 0 0] ⟨.leaf,0,G⟩))=((R (.nils 0 0) (⟨.leaf,0,G⟩))):=by kernel_rfl
theorem lq (R:AV→AHeap→Prop)(cell cell' cell2 cell3:Nat→AV)(p q s w t v2:List UInt8)(a c e g i:Int)(u n m cp z y y2 lo off k:Nat)(b b2 b3:Bool)(G:T (T AV))(K:AM→Prop):Obl P 72 (fun v h=>R v h) 0 K [.run 11,.can 0 [] [0,1,5] []] ((zb P 72 [.str p,.str q] G))=(K (Ls p q (Int.ofNat 0) G)):=by kernel_rfl
theorem llyyy (R:AV→AHeap→Prop)(cell cell' cell2 cell3:Nat→AV)(p q s w t v2:List UInt8)(a c e g i:Int)(u n m cp z y y2 lo off k:Nat)(b b2 b3:Bool)(G:T (T AV))(_K:AM→Prop):Obl P 72 (fun v h=>R v h) 0 _K [.run 8,.know 10 true,.run 6,.know 15 true,.run 8,.op,.run 2,.op,.run 2,.know 24 true,.run 5,.op,.run 2,.op,.run 4,.done] ((Ls p q i G))=((decide (i<(↑p.length:Int))=true)∧(decide (i<(↑q.length:Int))=true)∧((0:Int)≤i∧i<(↑p.length:Int))∧((0:Int)≤i∧i<(↑q.length:Int))∧(((↑(p.getD i.toNat (0:UInt8)).toNat:Int) != (↑(q.getD i.toNat (0:UInt8)).toNat:Int))=true)∧((0:Int)≤i∧i<(↑p.length:Int))∧((0:Int)≤i∧i<(↑q.length:Int))∧(R (.bool (decide ((↑(p.getD i.toNat (0:UInt8)).toNat:Int)<(↑(q.getD i.toNat (0:UInt8)).toNat:Int)))) (⟨.leaf,0,G⟩))):=by kernel_rfl
theorem llyyn (R:AV→AHeap→Prop)(cell cell' cell2 cell3:Nat→AV)(p q s w t v2:List UInt8)(a c e g i:Int)(u n m cp z y y2 lo off k:Nat)(b b2 b3:Bool)(G:T (T AV))(K:AM→Prop):Obl P 72 (fun v h=>R v h) 0 K [.run 8,.know 10 true,.run 6,.know 15 true,.run 8,.op,.run 2,.op,.run 2,.know 24 false,.run 9,.can 0 [] [0,1,5] []] ((Ls p q i G))=((decide (i<(↑p.length:Int))=true)∧(decide (i<(↑q.length:Int))=true)∧((0:Int)≤i∧i<(↑p.length:Int))∧((0:Int)≤i∧i<(↑q.length:Int))∧(((↑(p.getD i.toNat (0:UInt8)).toNat:Int) != (↑(q.getD i.toNat (0:UInt8)).toNat:Int))=false)∧K (Ls p q (IntKind.i64.wrap (i+(1:Int))) G)):=by kernel_rfl
section
set_option linter.unusedSectionVars false
variable (R:AV→AHeap→Prop) (cell cell' cell2 cell3:Nat→AV) (p q s w t v2:List UInt8) (a c e g i:Int) (u n m cp z y y2 lo off k:Nat) (b b2 b3:Bool) (G:T (T AV)) (_K:AM→Prop)
include R cell cell' cell2 cell3 p q s w t v2 a c e g i u n m cp z y y2 lo off k b b2 b3 G _K
theorem llyn:Obl P 72 (fun v h=>R v h) 0 _K [.run 8,.know 10 true,.run 6,.know 15 false,.run 12,.done] ((Ls p q i G))=((decide (i<(↑p.length:Int))=true)∧(decide (i<(↑q.length:Int))=false)∧(R (.bool (decide ((↑p.length:Int)<(↑q.length:Int)))) (⟨.leaf,0,G⟩))):=by kernel_rfl
theorem lln:Obl P 72 (fun v h=>R v h) 0 _K [.run 8,.know 10 false,.run 18,.done] ((Ls p q i G))=((decide (i<(↑p.length:Int))=false)∧(R (.bool (decide ((↑p.length:Int)<(↑q.length:Int)))) (⟨.leaf,0,G⟩))):=by kernel_rfl
theorem lxy:Obl P 46 (fun v _=>R v (⟨.leaf,0,G⟩)) 0 _K [.run 15,.know 9 true,.run 8,(.callv [0,1] (.bool b)),.run 3,.can 0 [] [4] [],.done] ((zb P 46 [.agg [.str p,.int .i64 a,.int .i64 c],.agg [.str q,.int .i64 e,.int .i64 g]] G))=(((!p==q)=true)∧(Goal P 0 72 (fun x x_1=>x=AV.bool b) (zb P 72 [.str p,.str q] G))∧(R (.bool b) (⟨.leaf,0,G⟩))):=by kernel_rfl
theorem lxny:Obl P 46 (fun v _=>R v (⟨.leaf,0,G⟩)) 0 _K [.run 15,.know 9 false,.run 11,.know 19 true,.run 11,.can 0 [] [4] [],.done] ((zb P 46 [.agg [.str p,.int .i64 a,.int .i64 c],.agg [.str q,.int .i64 e,.int .i64 g]] G))=(((!p==q)=false)∧((a != e)=true)∧(R (.bool (decide (a<e))) (⟨.leaf,0,G⟩))):=by kernel_rfl
theorem lxnn:Obl P 46 (fun v _=>R v (⟨.leaf,0,G⟩)) 0 _K [.run 15,.know 9 false,.run 11,.know 19 false,.run 12,.can 0 [] [4] [],.done] ((zb P 46 [.agg [.str p,.int .i64 a,.int .i64 c],.agg [.str q,.int .i64 e,.int .i64 g]] G))=(((!p==q)=false)∧((a != e)=false)∧(R (.bool (decide (c<g))) (⟨.leaf,0,G⟩))):=by kernel_rfl
theorem zo6:Obl P 45 (fun v h=>R v h) 0 _K [.run 11,.know 6 true,.run 5,.know 11 true,.run 5,.know 16 true,.run 5,.know 21 true,.run 8,.done] ((zb P 45 [.agg [.str p,.int .i64 a,.int .i64 c]] G))=((decide (c≥(1:Int))=true)∧(decide (c≤(13:Int))=true)∧(decide (a≥(0:Int))=true)∧(decide (a<(2147483648:Int))=true)∧(R (.bool (decide ((↑p.length:Int)≤(200:Int)))) (⟨(.node .leaf (some (.cells (.node (.node .leaf (some (.int .i64 a)) .leaf) (some (.str p)) (.node .leaf (some (.int .i64 c)) .leaf)) 3 35 0 0 1 0 false .leaf)) .leaf),1,G⟩))):=by kernel_rfl
theorem zpO:Obl P 45 (fun v h=>R v h) 0 _K [.run 11,.know 6 true,.run 5,.know 11 true,.run 5,.know 16 true,.run 5,.know 21 false,.run 8,.done] ((zb P 45 [.agg [.str p,.int .i64 a,.int .i64 c]] G))=((decide (c≥(1:Int))=true)∧(decide (c≤(13:Int))=true)∧(decide (a≥(0:Int))=true)∧(decide (a<(2147483648:Int))=false)∧(R (.bool false) (⟨(.node .leaf (some (.cells (.node (.node .leaf (some (.int .i64 a)) .leaf) (some (.str p)) (.node .leaf (some (.int .i64 c)) .leaf)) 3 35 0 0 1 0 false .leaf)) .leaf),1,G⟩))):=by kernel_rfl
theorem mryyn:Obl P 45 (fun v h=>R v h) 0 _K [.run 11,.know 6 true,.run 5,.know 11 true,.run 5,.know 16 false,.run 13,.done] ((zb P 45 [.agg [.str p,.int .i64 a,.int .i64 c]] G))=((decide (c≥(1:Int))=true)∧(decide (c≤(13:Int))=true)∧(decide (a≥(0:Int))=false)∧(R (.bool false) (⟨(.node .leaf (some (.cells (.node (.node .leaf (some (.int .i64 a)) .leaf) (some (.str p)) (.node .leaf (some (.int .i64 c)) .leaf)) 3 35 0 0 1 0 false .leaf)) .leaf),1,G⟩))):=by kernel_rfl
theorem mryn:Obl P 45 (fun v h=>R v h) 0 _K [.run 11,.know 6 true,.run 5,.know 11 false,.run 18,.done] ((zb P 45 [.agg [.str p,.int .i64 a,.int .i64 c]] G))=((decide (c≥(1:Int))=true)∧(decide (c≤(13:Int))=false)∧(R (.bool false) (⟨(.node .leaf (some (.cells (.node (.node .leaf (some (.int .i64 a)) .leaf) (some (.str p)) (.node .leaf (some (.int .i64 c)) .leaf)) 3 35 0 0 1 0 false .leaf)) .leaf),1,G⟩))):=by kernel_rfl
theorem mrn:Obl P 45 (fun v h=>R v h) 0 _K [.run 11,.know 6 false,.run 23,.done] ((zb P 45 [.agg [.str p,.int .i64 a,.int .i64 c]] G))=((decide (c≥(1:Int))=false)∧(R (.bool false) (⟨(.node .leaf (some (.cells (.node (.node .leaf (some (.int .i64 a)) .leaf) (some (.str p)) (.node .leaf (some (.int .i64 c)) .leaf)) 3 35 0 0 1 0 false .leaf)) .leaf),1,G⟩))):=by kernel_rfl
theorem sn:Obl P 11 (fun v h=>R v h) 0 _K [.run 37,.can 0 [] [4] [],.done] ((ze P 11 [.nils 0 0,.nils 0 0] ⟨.leaf,0,G⟩))=((R (.bool true) (⟨.leaf,0,G⟩))):=by kernel_rfl
end
theorem esG (R:AV→AHeap→Prop)(cell cell' cell2 cell3:Nat→AV)(p q s w t v2:List UInt8)(a c e g i:Int)(u n m cp z y y2 lo off k:Nat)(b b2 b3:Bool)(G:T (T AV))(K:AM→Prop):Obl P 15 (fun v h=>R v h) 1 K [.run 8,(.callh [(0,0,[])] [0] (.slg 1 0 0 m 0) ⟨(.node (.node .leaf (some (.cells (.fn fun c=>some (cell' c)) y 35 0 0 1 0 false .leaf)) .leaf) (some (.cells (.fn fun c=>some (cell c)) z 35 0 0 1 0 false .leaf)) .leaf),2,G⟩),.run 8,(.callv [0,1] (.str w)),.run 9,.can 1 [0,1] [0,3,4] []] ((ze P 15 [.slg 0 0 0 n 0] ⟨(.node .leaf (some (.cells (.fn fun c=>some (cell c)) z 35 0 0 1 0 false .leaf)) .leaf),1,G⟩))=((za fun c=>some (cell c))∧(za fun c=>some (cell c))∧(za fun c=>some (cell' c))∧(Goal P 1 13 (fun x k=>x=AV.slg 1 0 0 m 0∧k={ objs:=(T.leaf.node (some (AObj.cells (T.fn fun c=>some (cell' c)) y 35 0 0 1 0 false T.leaf)) T.leaf).node (some (AObj.cells (T.fn fun c=>some (cell c)) z 35 0 0 1 0 false T.leaf)) T.leaf,next:=2,glob:=G }) (ze P 13 [.slg 0 0 0 n 0] ⟨(.node .leaf (some (.cells (.fn fun c=>some (cell c)) z 35 0 0 1 0 false .leaf)) .leaf),1,G⟩))∧(Goal P 0 51 (fun x x_1=>x=AV.str w) (zb P 51 [.str [],.int .u64 (IntKind.u64.wrap (↑m:Int))] G))∧(za fun c=>some (cell c))∧(za fun c=>some (cell' c))∧K (Er cell cell' w (Int.ofNat 0) m z y G)):=by kernel_rfl
theorem ez (R:AV→AHeap→Prop)(cell cell' cell2 cell3:Nat→AV)(p q s w t v2:List UInt8)(a c e g i:Int)(u n m cp z y y2 lo off k:Nat)(b b2 b3:Bool)(G:T (T AV))(K:AM→Prop):Obl P 15 (fun v h=>R v h) 1 K [.run 8,(.callh [(0,0,[])] [0] (.nils 0 0) ⟨(.node .leaf (some (.cells (.fn fun c=>some (cell c)) z 35 0 0 1 0 false .leaf)) .leaf),1,G⟩),.run 8,(.callv [0,1] (.str w)),.run 9,.can 1 [0] [0,3,4] []] ((ze P 15 [.slg 0 0 0 n 0] ⟨(.node .leaf (some (.cells (.fn fun c=>some (cell c)) z 35 0 0 1 0 false .leaf)) .leaf),1,G⟩))=((za fun c=>some (cell c))∧(za fun c=>some (cell c))∧(Goal P 1 13 (fun x k=>x=AV.nils 0 0∧k={ objs:=T.leaf.node (some (AObj.cells (T.fn fun c=>some (cell c)) z 35 0 0 1 0 false T.leaf)) T.leaf,next:=1,glob:=G }) (ze P 13 [.slg 0 0 0 n 0] ⟨(.node .leaf (some (.cells (.fn fun c=>some (cell c)) z 35 0 0 1 0 false .leaf)) .leaf),1,G⟩))∧(Goal P 0 51 (fun x x_1=>x=AV.str w) (zb P 51 [.str [],.int .u64 0] G))∧(za fun c=>some (cell c))∧K (Ez cell w z G)):=by kernel_rfl
theorem ezd (R:AV→AHeap→Prop)(cell cell' cell2 cell3:Nat→AV)(p q s w t v2:List UInt8)(a c e g i:Int)(u n m cp z y y2 lo off k:Nat)(b b2 b3:Bool)(G:T (T AV))(_K:AM→Prop):Obl P 15 (fun v h=>R v h) 1 _K [.run 16,.can 1 [0] [2] [],.done] ((Ez cell s z G))=((za fun c=>some (cell c))∧(R (.str s) (⟨(.node .leaf (some (.cells (.fn fun c=>some (cell c)) z 35 0 0 1 0 false .leaf)) .leaf),1,G⟩))):=by kernel_rfl
theorem en (R:AV→AHeap→Prop)(cell cell' cell2 cell3:Nat→AV)(p q s w t v2:List UInt8)(a c e g i:Int)(u n m cp z y y2 lo off k:Nat)(b b2 b3:Bool)(G:T (T AV))(_K:AM→Prop):Obl P 15 (fun v h=>R v h) 0 _K [.run 8,(.callh [] [0] (.nils 0 0) ⟨.leaf,0,G⟩),.run 8,(.callv [0,1] (.str w)),.run 25,.can 0 [] [2] [],.done] ((ze P 15 [.nils 0 0] ⟨.leaf,0,G⟩))=((Goal P 0 13 (fun x k=>x=AV.nils 0 0∧k={ objs:=T.leaf,next:=0,glob:=G }) (zb P 13 [.nils 0 0] G))∧(Goal P 0 51 (fun x x_1=>x=AV.str w) (zb P 51 [.str [],.int .u64 0] G))∧(R (.str w) (⟨.leaf,0,G⟩))):=by kernel_rfl
theorem er (R:AV→AHeap→Prop)(cell cell' cell2 cell3:Nat→AV)(p q s w t v2:List UInt8)(a c e g i:Int)(u n m cp z y y2 lo off k:Nat)(b b2 b3:Bool)(G:T (T AV))(K:AM→Prop):Obl P 15 (fun v h=>R v h) 1 K [.run 8,.know 14 true,.run 9,.op,.run 1,.op,.slot 22 (.str p),.run 1,.callv [0,1] (.str w),.run 7,.op,.run 1,.op,.slot 29 (.int .i64 a),.run 2,.callv [0,1] (.str t),.run 6,.op,.run 1,.op,.slot 37 (.int .i64 c),.run 2,.callv [0,1] (.str v2),.run 9,.can 1 [0,1] [0,3,4] []] ((Er cell cell' s i m z y G))=((decide (i<(↑m:Int))=true)∧((0:Int)≤i∧i<(↑m:Int))∧(0+i.toNat*3+1≤y)∧(cell' (0+i.toNat*3)=AV.str p)∧(Goal P 0 52 (fun x x_1=>x=AV.str w) (zb P 52 [.str s,.str p] G))∧((0:Int)≤i∧i<(↑m:Int))∧(0+i.toNat*3+1+1≤y)∧(cell' (0+i.toNat*3+1)=AV.int .i64 a)∧(Goal P 0 51 (fun x x_1=>x=AV.str t) (zb P 51 [.str w,.int .u64 (IntKind.u64.wrap a)] G))∧((0:Int)≤i∧i<(↑m:Int))∧(0+i.toNat*3+2+1≤y)∧(cell' (0+i.toNat*3+2)=AV.int .i64 c)∧(Goal P 0 51 (fun x x_1=>x=AV.str v2) (zb P 51 [.str t,.int .u64 (IntKind.u64.wrap c)] G))∧(za fun c=>some (cell c))∧(za fun c=>some (cell' c))∧K (Er cell cell' v2 (IntKind.i64.wrap (i+(1:Int))) m z y G)):=by kernel_rfl
theorem edn (R:AV→AHeap→Prop)(cell cell' cell2 cell3:Nat→AV)(p q s w t v2:List UInt8)(a c e g i:Int)(u n m cp z y y2 lo off k:Nat)(b b2 b3:Bool)(G:T (T AV))(_K:AM→Prop):Obl P 15 (fun v h=>R v h) 1 _K [.run 8,.know 14 false,.run 8,.can 1 [0] [2] [],.done] ((Er cell cell' s i m z y G))=((decide (i<(↑m:Int))=false)∧(za fun c=>some (cell c))∧(R (.str s) (⟨(.node .leaf (some (.cells (.fn fun c=>some (cell c)) z 35 0 0 1 0 false .leaf)) .leaf),1,G⟩))):=by kernel_rfl
theorem up1b (k:Nat)(h:k<1000000000):IntKind.i64.wrap ((k:Int)+1)=((k+1:Nat):Int):=by rw [IntWalk.i64_in _ (by omega)]; omega
theorem jd {p:List UInt8}{i:Nat}(h:i<p.length):p.drop i=p.getD i 0::p.drop (i+1):=by
 rw [List.drop_eq_getElem_cons h,List.getD_eq_getElem?_getD,List.getElem?_eq_getElem h]
 rfl
theorem zek {p q:List UInt8}(hp:p.length<1000000000):∀ r i,i+r=p.length→Goal P 0 72 (fun v _=>v=.bool (decide (p.drop i<q.drop i))) (Ls p q (i:Int) GW)
 | 0,i,hi=>by
  have hd:p.drop i=[]:=List.drop_eq_nil_of_le (by omega)
  have e:decide (p.drop i<q.drop i)=decide ((p.length:Int)<(q.length:Int)):=by
   rw [hd,decide_eq_decide]
   by_cases h:i<q.length
   · rw [jd h]
     exact ⟨fun _=>by omega,fun _=>List.nil_lt_cons _ _⟩
   · rw [List.drop_eq_nil_of_le (by omega:q.length≤i)]
     exact ⟨fun h=>absurd h (List.lt_irrefl _),fun h=>by omega⟩
  exact (og (lln (fun v _=>v=.bool (decide (p.drop i<q.drop i))) (el zf) (el zf) (el zf) (el zf) (p) (q) [] [] [] [] 0 0 0 0 ((i:Int)) 0 0 0 0 0 0 0 0 0 0 false false false GW _).symm ⟨decide_eq_false (by omega),congrArg AV.bool e.symm⟩)
 | r+1,i,hi=>by
  have h1:i<p.length:=by omega
  by_cases h2:i<q.length
  · have c1:decide ((i:Int)<(p.length:Int))=true:=decide_eq_true (by omega)
    have c2:decide ((i:Int)<(q.length:Int))=true:=decide_eq_true (by omega)
    by_cases he:p.getD i 0=q.getD i 0
    · have ih:=zek (q:=q) hp r (i+1) (by omega)
      have e:decide (p.drop i<q.drop i)=decide (p.drop (i+1)<q.drop (i+1)):=by
       rw [jd h1,jd h2,he,decide_eq_decide,List.cons_lt_cons_iff]
       exact ⟨fun h=>h.elim (fun h=>absurd h (UInt8.lt_irrefl _)) fun h=>h.2,fun h=>.inr ⟨rfl,h⟩⟩
      rw [e]
      exact (og (llyyn (fun v _=>v=.bool (decide (p.drop (i+1)<q.drop (i+1)))) (el zf) (el zf) (el zf) (el zf) (p) (q) [] [] [] [] 0 0 0 0 ((i:Int)) 0 0 0 0 0 0 0 0 0 0 false false false GW _).symm ⟨c1,c2,⟨by omega,by omega⟩,⟨by omega,by omega⟩,by rw [← Bool.not_eq_true,bne_iff_ne]; exact fun h=>h (congrArg (fun x:UInt8=>((x.toNat:Nat):Int)) he),by rw [up1b i (by omega)]; exact ih⟩)
    · have hne:¬ (((p.getD i 0).toNat:Nat):Int)=(((q.getD i 0).toNat:Nat):Int):=fun h=>he (UInt8.toNat_inj.1 (by omega))
      have e:decide (p.drop i<q.drop i)=decide ((((p.getD i 0).toNat:Nat):Int)<(((q.getD i 0).toNat:Nat):Int)):=by
       rw [jd h1,jd h2,decide_eq_decide,List.cons_lt_cons_iff,UInt8.lt_iff_toNat_lt]
       constructor
       · rintro (h | h)
         · omega
         · exact absurd h.1 he
       · intro h
         exact .inl (by omega)
      rw [e]
      exact (og (llyyy (fun v _=>v=.bool (decide ((((p.getD i 0).toNat:Nat):Int)<(((q.getD i 0).toNat:Nat):Int)))) (el zf) (el zf) (el zf) (el zf) (p) (q) [] [] [] [] 0 0 0 0 ((i:Int)) 0 0 0 0 0 0 0 0 0 0 false false false GW _).symm ⟨c1,c2,⟨by omega,by omega⟩,⟨by omega,by omega⟩,by rw [bne_iff_ne]; exact hne,⟨by omega,by omega⟩,⟨by omega,by omega⟩,rfl⟩)
  · have e:decide (p.drop i<q.drop i)=decide ((p.length:Int)<(q.length:Int)):=by
     rw [jd h1,List.drop_eq_nil_of_le (by omega:q.length≤i),decide_eq_decide]
     exact ⟨fun h=>absurd h (List.not_lt_nil _),fun h=>by omega⟩
    exact (og (llyn (fun v _=>v=.bool (decide (p.drop i<q.drop i))) (el zf) (el zf) (el zf) (el zf) (p) (q) [] [] [] [] 0 0 0 0 ((i:Int)) 0 0 0 0 0 0 0 0 0 0 false false false GW _).symm ⟨decide_eq_true (by omega),decide_eq_false (by omega),congrArg AV.bool e.symm⟩)
theorem zn8 {p q:List UInt8}(hp:p.length<1000000000):Goal P 0 72 (fun v _=>v=.bool (decide (p<q))) (zb P 72 [.str p,.str q] GW) :=
 (og (lq (fun v _=>v=.bool (decide (p<q))) (el zf) (el zf) (el zf) (el zf) (p) (q) [] [] [] [] 0 0 0 0 0 0 0 0 0 0 0 0 0 0 0 false false false GW _).symm (zek (p:=p) (q:=q) hp p.length 0 (Nat.zero_add _)))
theorem zj3 (d:Dg):Goal P 0 45 (fun x _=>x=.bool (vL d)) (zb P 45 [.agg [.str d.1,.int .i64 d.2.1,.int .i64 d.2.2]] GW):=by
 unfold vL
 by_cases h1:d.2.2≥1
 · by_cases h2:d.2.2≤13
   · by_cases h3:d.2.1≥0
     · by_cases h4:d.2.1<2147483648
       · have e:decide (1≤d.2.2∧d.2.2≤13∧0≤d.2.1∧d.2.1≤2147483647∧d.1.length≤200)=decide (((d.1.length:Nat):Int)≤(200:Int)):=by
          rw [decide_eq_decide]
          omega
         rw [e]
         exact (og (zo6 (fun v _=>v=.bool (decide (((d.1.length:Nat):Int)≤(200:Int)))) (el zf) (el zf) (el zf) (el zf) (d.1) [] [] [] [] [] (d.2.1) (d.2.2) 0 0 0 0 0 0 0 0 0 0 0 0 0 false false false GW _).symm ⟨decide_eq_true h1,decide_eq_true h2,decide_eq_true h3,decide_eq_true h4,rfl⟩)
       · rw [decide_eq_false (p:=1≤d.2.2∧d.2.2≤13∧0≤d.2.1∧d.2.1≤2147483647∧d.1.length≤200) (by omega)]
         exact (og (zpO (fun v _=>v=.bool false) (el zf) (el zf) (el zf) (el zf) (d.1) [] [] [] [] [] (d.2.1) (d.2.2) 0 0 0 0 0 0 0 0 0 0 0 0 0 false false false GW _).symm ⟨decide_eq_true h1,decide_eq_true h2,decide_eq_true h3,decide_eq_false h4,rfl⟩)
     · rw [decide_eq_false (p:=1≤d.2.2∧d.2.2≤13∧0≤d.2.1∧d.2.1≤2147483647∧d.1.length≤200) (by omega)]
       exact (og (mryyn (fun v _=>v=.bool false) (el zf) (el zf) (el zf) (el zf) (d.1) [] [] [] [] [] (d.2.1) (d.2.2) 0 0 0 0 0 0 0 0 0 0 0 0 0 false false false GW _).symm ⟨decide_eq_true h1,decide_eq_true h2,decide_eq_false h3,rfl⟩)
   · rw [decide_eq_false (p:=1≤d.2.2∧d.2.2≤13∧0≤d.2.1∧d.2.1≤2147483647∧d.1.length≤200) (by omega)]
     exact (og (mryn (fun v _=>v=.bool false) (el zf) (el zf) (el zf) (el zf) (d.1) [] [] [] [] [] (d.2.1) (d.2.2) 0 0 0 0 0 0 0 0 0 0 0 0 0 false false false GW _).symm ⟨decide_eq_true h1,decide_eq_false h2,rfl⟩)
 · rw [decide_eq_false (p:=1≤d.2.2∧d.2.2≤13∧0≤d.2.1∧d.2.1≤2147483647∧d.1.length≤200) (by omega)]
   exact (og (mrn (fun v _=>v=.bool false) (el zf) (el zf) (el zf) (el zf) (d.1) [] [] [] [] [] (d.2.1) (d.2.2) 0 0 0 0 0 0 0 0 0 0 0 0 0 false false false GW _).symm ⟨decide_eq_false h1,rfl⟩)
instance (x y:Dg):Decidable (Lt x y):=inferInstanceAs (Decidable (_∨_))
theorem lt_ok (x y:Dg)(hx:x.1.length<1000000000):Goal P 0 46 (fun v _=>v=.bool (decide (Lt x y))) (zb P 46 [.agg [.str x.1,.int .i64 x.2.1,.int .i64 x.2.2],.agg [.str y.1,.int .i64 y.2.1,.int .i64 y.2.2]] GW):=by
 by_cases h1:x.1=y.1
 · by_cases h2:x.2.1=y.2.1
   · have e:decide (Lt x y)=decide (x.2.2<y.2.2):=by
      rw [decide_eq_decide]
      unfold Lt
      rw [h1,h2]
      exact ⟨fun h=>h.elim (fun h=>absurd h (zaJ _)) fun h=>by omega,fun h=>.inr ⟨rfl,.inr ⟨rfl,h⟩⟩⟩
     rw [e]
     exact (og (lxnn (fun v _=>v=.bool (decide (x.2.2<y.2.2))) (el zf) (el zf) (el zf) (el zf) (x.1) (y.1) [] [] [] [] (x.2.1) (x.2.2) (y.2.1) (y.2.2) 0 0 0 0 0 0 0 0 0 0 0 false false false GW _).symm ⟨by rw [h1]; simp,by rw [h2]; simp,rfl⟩)
   · have e:decide (Lt x y)=decide (x.2.1<y.2.1):=by
      rw [decide_eq_decide]
      unfold Lt
      rw [h1]
      exact ⟨fun h=>h.elim (fun h=>absurd h (zaJ _)) fun h=>by omega,fun h=>.inr ⟨rfl,.inl h⟩⟩
     rw [e]
     exact (og (lxny (fun v _=>v=.bool (decide (x.2.1<y.2.1))) (el zf) (el zf) (el zf) (el zf) (x.1) (y.1) [] [] [] [] (x.2.1) (x.2.2) (y.2.1) (y.2.2) 0 0 0 0 0 0 0 0 0 0 0 false false false GW _).symm ⟨by rw [h1]; simp,by rw [bne_iff_ne]; exact h2,rfl⟩)
 · have e:decide (Lt x y)=decide (x.1<y.1):=by
    rw [decide_eq_decide]
    unfold Lt
    exact ⟨fun h=>h.elim id fun h=>absurd h.1 h1,.inl⟩
   rw [e]
   exact (og (lxy (fun v _=>v=.bool (decide (x.1<y.1))) (el zf) (el zf) (el zf) (el zf) (x.1) (y.1) [] [] [] [] (x.2.1) (x.2.2) (y.2.1) (y.2.2) 0 0 0 0 0 0 0 0 0 0 0 (decide (x.1<y.1)) false false GW _).symm ⟨by rw [beqF h1]; rfl,zn8 hx,rfl⟩)
def ins (g:Nat→Dg) (u:Nat) (d:Dg) (j:Nat):Dg:=if j<u then g j else if j=u then d else g (j - 1)
theorem zpW {h:Nat→Dg}{n:Nat}(k:∀ i j,i<j→j<n→Lt (h i) (h j)):Ups (sl h 0 n):=by
 refine List.pairwise_iff_getElem.2 fun i j hi hj hij=>?_
 rw [xO] at hi hj
 have e1:(sl h 0 n)[i]?=some (h i):=by rw [wB _ _ _ _ (by omega),Nat.zero_add]
 have e2:(sl h 0 n)[j]?=some (h j):=by rw [wB _ _ _ _ (by omega),Nat.zero_add]
 rw [List.getElem?_eq_getElem (by rw [xO]; omega)] at e1 e2
 rw [Option.some.inj e1,Option.some.inj e2]
 exact k i j hij hj
theorem zfS {h:Nat→Dg}{n:Nat}(k:Ups (sl h 0 n))(i j:Nat)(hij:i<j)(hj:j<n):Lt (h i) (h j):=by
 have:=List.pairwise_iff_getElem.1 k i j (by rw [xO]; omega) (by rw [xO]; omega) hij
 have e1:(sl h 0 n)[i]?=some (h i):=by rw [wB _ _ _ _ (by omega),Nat.zero_add]
 have e2:(sl h 0 n)[j]?=some (h j):=by rw [wB _ _ _ _ (by omega),Nat.zero_add]
 rw [List.getElem?_eq_getElem (by rw [xO]; omega)] at e1 e2
 rw [Option.some.inj e1,Option.some.inj e2] at this
 exact this
theorem zaq {g:Nat→Dg}{u j:Nat}{d:Dg}(h:j<u):ins g u d j=g j:=if_pos h
theorem ins_eq {g:Nat→Dg}{u:Nat}{d:Dg}:ins g u d u=d:=by unfold ins; rw [if_neg (by omega),if_pos rfl]
theorem zbN {g:Nat→Dg}{u j:Nat}{d:Dg}(h:u<j):ins g u d j=g (j - 1):=by unfold ins; rw [if_neg (by omega),if_neg (by omega)]
theorem zmq {l:List Dg}{g:Nat→Dg}{m u:Nat}{d:Dg}(h:So l (sl g 0 m))(hd:vL d=true)(hu:u≤m)(h1:∀ t,t<u→Lt (g t) d)(h2:u<m→Lt d (g u)):So (l++[d]) (sl (ins g u d) 0 (m+1)):=by
 refine ⟨zpW fun i j hij hj=>?_,fun x=>?_⟩
 · rcases Nat.lt_trichotomy j u with a | a | a
   · rw [zaq (by omega),zaq a]
     exact zfS h.1 i j hij (by omega)
   · rw [a,ins_eq,zaq (by omega)]
     exact h1 i (by omega)
   · rw [zbN a]
     rcases Nat.lt_trichotomy i u with b | b | b
     · rw [zaq b]
       exact zfS h.1 i (j - 1) (by omega) (by omega)
     · rw [b,ins_eq]
       have k:=h2 (by omega)
       by_cases e:j - 1=u
       · rw [e]; exact k
       · exact k.trans (zfS h.1 u (j - 1) (by omega) (by omega))
     · rw [zbN b]
       exact zfS h.1 (i - 1) (j - 1) (by omega) (by omega)
 · have key:x∈sl (ins g u d) 0 (m+1) ↔ x∈sl g 0 m∨x=d:=by
    constructor
    · intro hx
      obtain ⟨t,_,t2,rfl⟩:=zjD _ _ hx
      rcases Nat.lt_trichotomy t u with a | a | a
      · rw [zaq a]; exact .inl (vU g m 0 t (by omega) (by omega))
      · rw [a,ins_eq]; exact .inr rfl
      · rw [zbN a]; exact .inl (vU g m 0 (t - 1) (by omega) (by omega))
    · rintro (hx | rfl)
      · obtain ⟨t,_,t2,rfl⟩:=zjD _ _ hx
        by_cases a:t<u
        · rw [← zaq (g:=g) (d:=d) a]
          exact vU (ins g u d) (m+1) 0 t (by omega) (by omega)
        · have e:g t=ins g u d (t+1):=by rw [zbN (by omega),Nat.add_sub_cancel]
          rw [e]
          exact vU (ins g u d) (m+1) 0 (t+1) (by omega) (by omega)
      · have e:x=ins g u x u:=ins_eq.symm
        have k:=vU (ins g u x) (m+1) 0 u (by omega) (by omega)
        rw [ins_eq] at k
        exact k
   rw [key,h.2,List.mem_append,List.mem_singleton]
   constructor
   · rintro (⟨a,b⟩ | rfl)
     · exact ⟨.inl a,b⟩
     · exact ⟨.inr rfl,hd⟩
   · rintro ⟨a | a,b⟩
     · exact .inl ⟨a,b⟩
     · exact .inr a
theorem ze2 {l m:List Dg}{d:Dg}(h:So l m)(hd:vL d=true→d∈m):So (l++[d]) m:=by
 refine ⟨h.1,fun x=>?_⟩
 rw [h.2,List.mem_append,List.mem_singleton]
 constructor
 · rintro ⟨a,b⟩
   exact ⟨.inl a,b⟩
 · rintro ⟨a | rfl,b⟩
   · exact ⟨a,b⟩
   · exact ⟨((h.2 _).1 (hd b)).1,b⟩
theorem zjI {l:List Dg}{g:Nat→Dg}{m m':Nat}(h:So l (sl g 0 m))(e:m'=m):So l (sl g 0 m'):=e▸h
theorem zfK (f:Nat→Dg)(k:Nat):(el f k).one=true:=by
 unfold el
 cases Nat.beq (k % 3) 0 <;> cases Nat.beq (k % 3) 1 <;> rfl
theorem zl2 (d:Dg)(k:Nat)(h:k<3):((T.leaf.node (some (AV.int IntKind.i64 d.2.1)) T.leaf).node (some (AV.str d.1)) (T.leaf.node (some (AV.int IntKind.i64 d.2.2)) T.leaf)).get k=(sc d)[k]?:=by
 have hr:k=0∨k=1∨k=2:=by omega
 rcases hr with h | h | h <;> subst h <;> rfl
theorem zfn (d:Dg)(k:Nat)(h:k<3):∃ v,((T.leaf.node (some (AV.int IntKind.i64 d.2.1)) T.leaf).node (some (AV.str d.1)) (T.leaf.node (some (AV.int IntKind.i64 d.2.2)) T.leaf)).get (0+k)=some v∧v.one=true:=by
 have hr:k=0∨k=1∨k=2:=by omega
 rcases hr with h | h | h <;> subst h <;> exact ⟨_,rfl,rfl⟩
theorem znX {a b c:Nat}(h:a≤b∧b<c):(a.ble b&&b.blt c)=true:=by
 rw [Bool.and_eq_true,Nat.ble_eq,Nat.blt_eq]; exact h
theorem zof {a b c:Nat}(h:¬ (a≤b∧b<c)):(a.ble b&&b.blt c)=false:=by
 rw [← Bool.not_eq_true,Bool.and_eq_true,Nat.ble_eq,Nat.blt_eq]; exact h
theorem ziY (g:Nat→Dg)(u:Nat)(d:Dg){U D Z:Nat}(hU:U=u)(hD:D=3)(hZ:Z≤u*3+3):xZ Z (.fn fun c=>some (el (ins g u d) c)) (.fn fun k=>bif (0+(U - 0)*D).ble k&&k.blt (0+(U - 0)*D+1*D) then (fun k=>((T.leaf.node (some (AV.int IntKind.i64 d.2.1)) T.leaf).node (some (AV.str d.1)) (T.leaf.node (some (AV.int IntKind.i64 d.2.2)) T.leaf)).get (0+k)) (k - (0+(U - 0)*D)) else (T.fn fun k=>(T.fn fun c=>some (el g c)).get (0+k)).get k):=by
 subst hU hD
 intro k v hk h
 have h:some (el (ins g U d) k)=some v:=h
 rw [← h]
 show (bif (0+(U - 0)*3).ble k&&k.blt (0+(U - 0)*3+1*3) then ((T.leaf.node (some (AV.int IntKind.i64 d.2.1)) T.leaf).node (some (AV.str d.1)) (T.leaf.node (some (AV.int IntKind.i64 d.2.2)) T.leaf)).get (0+(k - (0+(U - 0)*3))) else some (el g (0+k)))=_
 by_cases hin:U*3≤k
 · rw [znX (by omega),cond_true,zl2 d _ (by omega),← zeR,show k / 3=U by omega,ins_eq,show 0+(k - (0+(U - 0)*3))=k % 3 by omega]
 · rw [zof (by omega),cond_false]
   congr 1
   refine zbZ (by omega) ?_
   rw [zaq (by omega)]
   congr 1
   omega
theorem zoE (g:Nat→Dg)(u m:Nat)(d:Dg){U D Z:Nat}(hU:U=u)(hD:D=3)(hm:u≤m)(hZ:Z≤m*3+3):xZ Z (.fn fun c=>some (el (ins g u d) c)) (.fn fun k=>bif (0+(U - 0+1)*D).ble k&&k.blt (0+(U - 0+1)*D+(m - U)*D) then (fun k=>(T.fn fun c=>some (el g c)).get (0+U*3+k)) (k - (0+(U - 0+1)*D)) else (T.fn fun k=>bif (0+(U - 0)*D).ble k&&k.blt (0+(U - 0)*D+1*D) then (fun k=>((T.leaf.node (some (AV.int IntKind.i64 d.2.1)) T.leaf).node (some (AV.str d.1)) (T.leaf.node (some (AV.int IntKind.i64 d.2.2)) T.leaf)).get (0+k)) (k - (0+(U - 0)*D)) else (T.fn fun k=>(T.fn fun c=>some (el g c)).get (0+k)).get k).get k):=by
 subst hU hD
 intro k v hk h
 by_cases hin:(U+1)*3≤k
 · have h:some (el (ins g U d) k)=some v:=h
   rw [← h]
   show (bif (0+(U - 0+1)*3).ble k&&k.blt (0+(U - 0+1)*3+(m - U)*3) then some (el g (0+U*3+(k - (0+(U - 0+1)*3)))) else _)=_
   rw [znX (by omega),cond_true]
   congr 1
   refine zbZ (by omega) ?_
   rw [zbN (by omega)]
   congr 1
   omega
 · show (bif (0+(U - 0+1)*3).ble k&&k.blt (0+(U - 0+1)*3+(m - U)*3) then _ else (T.fn fun k=>bif (0+(U - 0)*3).ble k&&k.blt (0+(U - 0)*3+1*3) then (fun k=>((T.leaf.node (some (AV.int IntKind.i64 d.2.1)) T.leaf).node (some (AV.str d.1)) (T.leaf.node (some (AV.int IntKind.i64 d.2.2)) T.leaf)).get (0+k)) (k - (0+(U - 0)*3)) else (T.fn fun k=>(T.fn fun c=>some (el g c)).get (0+k)).get k).get k)=_
   rw [zof (by omega),cond_false]
   exact ziY g U d rfl rfl (Nat.le_refl _) k v (by omega) h
theorem znm (g:Nat→Dg)(m:Nat)(d:Dg){D Z:Nat}(hD:D=3)(hZ:Z≤m*3+3):xZ Z (.fn fun c=>some (el (ins g 0 d) c)) (.fn fun k=>bif (0+1*D).ble k&&k.blt (0+1*D+m*D) then (fun k=>(T.fn fun c=>some (el g c)).get (0+k)) (k - (0+1*D)) else ((T.leaf.node (some (AV.int IntKind.i64 d.2.1)) T.leaf).node (some (AV.str d.1)) (T.leaf.node (some (AV.int IntKind.i64 d.2.2)) T.leaf)).get k):=by
 subst hD
 intro k v hk h
 have h:some (el (ins g 0 d) k)=some v:=h
 rw [← h]
 show (bif (0+1*3).ble k&&k.blt (0+1*3+m*3) then some (el g (0+(k - (0+1*3)))) else ((T.leaf.node (some (AV.int IntKind.i64 d.2.1)) T.leaf).node (some (AV.str d.1)) (T.leaf.node (some (AV.int IntKind.i64 d.2.2)) T.leaf)).get k)=_
 by_cases hin:3≤k
 · rw [znX (by omega),cond_true]
   congr 1
   refine zbZ (by omega) ?_
   rw [zbN (by omega)]
   congr 1
   omega
 · rw [zof (by omega),cond_false,zl2 d _ (by omega),← zeR,show k / 3=0 by omega,ins_eq,show k % 3=k by omega]
theorem app0s (o y l k:Nat)(c:T AV)(h:AHeap)(ho:o≤y)(hh:h.get 1=some (.cells c y 35 0 0 1 0 false .leaf)):zpv (wu P h 22 false (.slg 2 1 0 l 0) (.slg 1 0 o 0 k))=some (.val (.slg 2 1 0 l 0) h):=by
 have hl:zj h 1 0 o 0=some []:=by
  unfold zj
  rw [hh]
  show (if 0≤0∧0≤0∧o+0≤y then zG _ o 0 else none)=_
  rw [if_pos ⟨Nat.le_refl _,Nat.le_refl _,ho⟩]
  rfl
 have key:wu P h 22 false (.slg 2 1 0 l 0) (.slg 1 0 o 0 k)=(match (match zj h 1 0 o 0 with
  | none=>none
  | some new=>some (0,new)) with
  | none=>none
  | some (n,new)=>if 0<3∧3=3∧true=true∧new.all AV.one=true∧new.length=n*3∧(false=true→Nat.ble (n*32) (2 ^ 48)=true) then (match n with
   | 0=>qg h (.slg 2 1 0 l 0)
   | n+1=>yZ h 35 3 32 l (n+1) (.slg 2 1 0 l 0) new) else none):=by kernel_rfl
 rw [key,hl]
 rfl
def SoD (f:Nat→Dg) (n z:Nat) (m:AM):Prop :=
 (So (sl f 0 n) []∧Goal P 1 13 (fun v h=>v=.nils 0 0∧h=HCo f 0 z) m) ∨
  ∃ f' k y,0<k∧k≤n∧k*3≤y∧So (sl f 0 n) (sl f' 0 k)∧Goal P 1 13 (fun v h=>v=.slg 1 0 0 k 0∧h=HCw f f' 0 z y) m
theorem SoD.of {f:Nat→Dg}{n z:Nat}{m m':AM}(h:SoD f n z m)(k:∀ R:AV→AHeap→Prop,Goal P 1 13 R m→Goal P 1 13 R m'):SoD f n z m':=by
 rcases h with ⟨h1,h2⟩ | ⟨f',k',y',h1,h2,h3,h4,h5⟩
 · exact .inl ⟨h1,k _ h2⟩
 · exact .inr ⟨f',k',y',h1,h2,h3,h4,k _ h5⟩
theorem zhp (a:Nat)(h:a<1000000):xz a 32=true:=by
 unfold xz
 rw [Bool.and_eq_true,Nat.ble_eq,Nat.blt_eq]
 constructor <;> omega
section
variable {z n:Nat} {f:Nat→Dg}
theorem zlC {i m y u:Nat}{g:Nat→Dg}{R:AV→AHeap→Prop}(hz:n*3≤z)(hn:n<100000)(hi:i<n)(h0:0<m)(hm:m≤i)(hy:m*3≤y)(hum:u=m)
 (h:Goal P 1 13 R (RsB (el f) (el (ins g u (f i))) ((i+1:Nat):Int) n ((u:Int).toNat - 0+1) z (u*3+3) GW)):Goal P 1 13 R (RsC (el f) (el g) (i:Int) (u:Int) n m z y GW):=by
 have hD:=yM
 have a1:=xy f i
 have t1:=ziY (D:=DS) g u (f i) (U:=(u:Int).toNat) (by omega) yM (Nat.le_refl (u*3+3))
 have hw:=up1 i (by omega)
 have b1:∀ k,k<((u:Int).toNat - 0)*DS→∃ v,(T.fn fun c=>some (el g c)).get (0+k)=some v∧v.one=true:=fun k _=>⟨_,rfl,zfK g _⟩
 have b2:∀ k,k<1*DS→∃ v,((T.leaf.node (some (AV.int IntKind.i64 (f i).2.1)) T.leaf).node (some (AV.str (f i).1)) (T.leaf.node (some (AV.int IntKind.i64 (f i).2.2)) T.leaf)).get (0+k)=some v∧v.one=true:=fun k hk=>zfn (f i) k (by rw [hD] at hk; omega)
 have c1:decide ((u:Int)<((m:Nat):Int))=false:=decide_eq_false (by omega)
 have c2:AV.slg 1 0 (0+(u:Int).toNat*3) (m - (u:Int).toNat) (0+(u:Int).toNat)=AV.slg 1 0 (0+(u:Int).toNat*3) 0 (0+(u:Int).toNat):=by rw [show m - (u:Int).toNat=0 by omega]
 have c3:0+1*DS≤3:=by rw [hD]; omega
 have c5:0=0*DS:=(Nat.zero_mul _).symm
 have r1:=zhp ((u:Int).toNat - 0) (by omega)
 have r2:=zhp ((u:Int).toNat - 0+1) (by omega)
 rw [← hw] at h
 exact (og (rCz (R) (el f) (el g) (el (ins g u (f i))) (el zf) ((f i).1) [] ((f i).2.1) ((f i).2.2) 0 0 ((i:Int)) (u) (n) (m) (z) (y) (u*3+3) 0 0 false false false GW _).symm ⟨c1,c1,⟨by omega,by omega⟩,⟨⟨by omega,b1⟩,by omega,r1⟩,⟨by omega,by omega⟩,by omega,a1,⟨⟨c3,b2⟩,by omega,by omega,by omega,c5,r2,by omega⟩,t1,by omega,⟨by omega,by omega⟩,c2,app0s _ _ _ _ _ _ (by omega) rfl,zh _,zh _,h⟩)
theorem zkP {i m y u:Nat}{g:Nat→Dg}{R:AV→AHeap→Prop}(hz:n*3≤z)(hn:n<100000)(hi:i<n)(hm:m≤i)(hy:m*3≤y)(hu:u<m)(hless:Goal P 0 46 (fun v _=>v=.bool true) (zb P 46 [.agg [.str (g u).1,.int .i64 (g u).2.1,.int .i64 (g u).2.2],.agg [.str (f i).1,.int .i64 (f i).2.1,.int .i64 (f i).2.2]] GW))
 (h:Goal P 1 13 R (RsC (el f) (el g) (i:Int) ((u+1:Nat):Int) n m z y GW)):Goal P 1 13 R (RsC (el f) (el g) (i:Int) (u:Int) n m z y GW):=by
 have hD:=yM
 have a1:=xy f i
 have a2:=xy g u
 have c1:decide ((u:Int)<((m:Nat):Int))=true:=decide_eq_true (by omega)
 have d1:0+((u:Int)).toNat*3+3≤y:=by omega
 have d2:0+((i:Int)).toNat*3+3≤z:=by omega
 have d3:(0:Int)≤(u:Int):=by omega
 have d4:(u:Int)<(m:Int):=by omega
 have d5:(0:Int)≤(i:Int):=by omega
 have d6:(i:Int)<(n:Int):=by omega
 rw [← up1 u (by omega)] at h
 exact (og (rCyy (R) (el f) (el g) (el zf) (el zf) ((f i).1) ((g u).1) ((f i).2.1) ((f i).2.2) ((g u).2.1) ((g u).2.2) ((i:Int)) (u) (n) (m) (z) (y) 0 0 0 false (true) false GW _).symm ⟨c1,⟨d3,d4⟩,d1,a2,⟨d5,d6⟩,d2,a1,hless,rfl,zh _,zh _,h⟩)
theorem zlh {i m y u:Nat}{g:Nat→Dg}{R:AV→AHeap→Prop}(hz:n*3≤z)(hn:n<100000)(hi:i<n)(hm:m≤i)(hy:m*3≤y)(hu:u<m)(hless:Goal P 0 46 (fun v _=>v=.bool false) (zb P 46 [.agg [.str (g u).1,.int .i64 (g u).2.1,.int .i64 (g u).2.2],.agg [.str (f i).1,.int .i64 (f i).2.1,.int .i64 (f i).2.2]] GW))(he:g u=f i)
 (h:Goal P 1 13 R (RsB (el f) (el g) ((i+1:Nat):Int) n m z y GW)):Goal P 1 13 R (RsC (el f) (el g) (i:Int) (u:Int) n m z y GW):=by
 have hD:=yM
 have a1:=xy f i
 have a2:=xy g u
 have c1:decide ((u:Int)<((m:Nat):Int))=true:=decide_eq_true (by omega)
 have d1:0+((u:Int)).toNat*3+3≤y:=by omega
 have d2:0+((i:Int)).toNat*3+3≤z:=by omega
 have d3:(0:Int)≤(u:Int):=by omega
 have d4:(u:Int)<(m:Int):=by omega
 have d5:(0:Int)≤(i:Int):=by omega
 have d6:(i:Int)<(n:Int):=by omega
 have hq:∀ h:AHeap,vd P h BinOp.eql 35 (zi (Operand.tmp 44) || zi (Operand.tmp 48)) (AV.agg [AV.str (g u).1,AV.int IntKind.i64 (g u).2.1,AV.int IntKind.i64 (g u).2.2]) (AV.agg [AV.str (f i).1,AV.int IntKind.i64 (f i).2.1,AV.int IntKind.i64 (f i).2.2])=some (AV.bool true):=fun h=>by rw [zo3,decide_eq_true he]
 rw [← up1 i (by omega)] at h
 exact (og (rCyny (R) (el f) (el g) (el zf) (el zf) ((f i).1) ((g u).1) ((f i).2.1) ((f i).2.2) ((g u).2.1) ((g u).2.2) ((i:Int)) (u) (n) (m) (z) (y) 0 0 0 false (false) (true) GW _).symm ⟨c1,⟨d3,d4⟩,d1,a2,⟨d5,d6⟩,d2,a1,hless,rfl,c1,⟨d3,d4⟩,d1,a2,⟨d5,d6⟩,d2,a1,hq,rfl,zh _,zh _,h⟩)
theorem zkG {i m y u:Nat}{g:Nat→Dg}{R:AV→AHeap→Prop}(hz:n*3≤z)(hn:n<100000)(hi:i<n)(hm:m≤i)(hy:m*3≤y)(hu:u<m)(hu0:¬ u=0)(hless:Goal P 0 46 (fun v _=>v=.bool false) (zb P 46 [.agg [.str (g u).1,.int .i64 (g u).2.1,.int .i64 (g u).2.2],.agg [.str (f i).1,.int .i64 (f i).2.1,.int .i64 (f i).2.2]] GW))(he:¬ g u=f i)
 (h:Goal P 1 13 R (RsB (el f) (el (ins g u (f i))) ((i+1:Nat):Int) n ((u:Int).toNat - 0+1+(m - (u:Int).toNat)) z (0+((u:Int).toNat - 0+1)*3+(m - (u:Int).toNat)*3) GW)):Goal P 1 13 R (RsC (el f) (el g) (i:Int) (u:Int) n m z y GW):=by
 have hD:=yM
 have a1:=xy f i
 have a2:=xy g u
 have c1:decide ((u:Int)<((m:Nat):Int))=true:=decide_eq_true (by omega)
 have d1:0+((u:Int)).toNat*3+3≤y:=by omega
 have d2:0+((i:Int)).toNat*3+3≤z:=by omega
 have d3:(0:Int)≤(u:Int):=by omega
 have d4:(u:Int)<(m:Int):=by omega
 have d5:(0:Int)≤(i:Int):=by omega
 have d6:(i:Int)<(n:Int):=by omega
 have hq:∀ h:AHeap,vd P h BinOp.eql 35 (zi (Operand.tmp 44) || zi (Operand.tmp 48)) (AV.agg [AV.str (g u).1,AV.int IntKind.i64 (g u).2.1,AV.int IntKind.i64 (g u).2.2]) (AV.agg [AV.str (f i).1,AV.int IntKind.i64 (f i).2.1,AV.int IntKind.i64 (f i).2.2])=some (AV.bool false):=fun h=>by rw [zo3,decide_eq_false he]
 have b2:∀ k,k<1*DS→∃ v,((T.leaf.node (some (AV.int IntKind.i64 (f i).2.1)) T.leaf).node (some (AV.str (f i).1)) (T.leaf.node (some (AV.int IntKind.i64 (f i).2.2)) T.leaf)).get (0+k)=some v∧v.one=true:=fun k hk=>zfn (f i) k (by rw [hD] at hk; omega)
 have c3:0+1*DS≤3:=by rw [hD]; omega
 have c5:0=0*DS:=(Nat.zero_mul _).symm
 have t1:=zoE (D:=DS) (Z:=0+((u:Int).toNat - 0+1)*3+(m - (u:Int).toNat)*3) g u m (f i) (U:=(u:Int).toNat) (by omega) yM (by omega) (by omega)
 have b1:∀ k,k<((u:Int).toNat - 0)*DS→∃ v,(T.fn fun c=>some (el g c)).get (0+k)=some v∧v.one=true:=fun k _=>⟨_,rfl,zfK g _⟩
 have b3:∀ k,k<(m - (u:Int).toNat)*DS→∃ v,(T.fn fun c=>some (el g c)).get (0+(u:Int).toNat*3+k)=some v∧v.one=true:=fun k _=>⟨_,rfl,zfK g _⟩
 have r1:=zhp ((u:Int).toNat - 0) (by omega)
 have r2:=zhp ((u:Int).toNat - 0+1) (by omega)
 have r3:=zhp ((u:Int).toNat - 0+1+(m - (u:Int).toNat)) (by omega)
 rw [← up1 i (by omega)] at h
 exact (og (rCynn (R) (el f) (el g) (el (ins g u (f i))) (el zf) ((f i).1) ((g u).1) ((f i).2.1) ((f i).2.2) ((g u).2.1) ((g u).2.2) ((i:Int)) (u) (n) (m) (z) (y) (0+((u:Int).toNat - 0+1)*3+(m - (u:Int).toNat)*3) 0 0 false (false) (false) GW _).symm ⟨c1,⟨d3,d4⟩,d1,a2,⟨d5,d6⟩,d2,a1,hless,rfl,c1,⟨d3,d4⟩,d1,a2,⟨d5,d6⟩,d2,a1,hq,rfl,⟨d3,by omega⟩,⟨⟨by omega,b1⟩,by omega,r1⟩,⟨d5,d6⟩,d2,a1,⟨⟨c3,b2⟩,by omega,by omega,by omega,c5,r2,by omega⟩,⟨d3,by omega⟩,⟨⟨by omega,b3⟩,by omega,by omega,by omega,c5,r3,by omega⟩,t1,rfl,zh _,zh _,h⟩)
theorem zln {i m y:Nat}{g:Nat→Dg}{R:AV→AHeap→Prop}(hz:n*3≤z)(hn:n<100000)(hi:i<n)(h0:0<m)(hm:m≤i)(hy:m*3≤y)  (hless:Goal P 0 46 (fun v _=>v=.bool false) (zb P 46 [.agg [.str (g 0).1,.int .i64 (g 0).2.1,.int .i64 (g 0).2.2],.agg [.str (f i).1,.int .i64 (f i).2.1,.int .i64 (f i).2.2]] GW))(he:¬ g 0=f i)
 (h:Goal P 1 13 R (RsB (el f) (el (ins g 0 (f i))) ((i+1:Nat):Int) n (1+m) z (3+m*3) GW)):Goal P 1 13 R (RsC (el f) (el g) (i:Int) ((0:Nat):Int) n m z y GW):=by
 have hD:=yM
 have a1:=xy f i
 have a2:=xy g 0
 have c1:decide (((0:Nat):Int)<((m:Nat):Int))=true:=decide_eq_true (by omega)
 have d2:0+((i:Int)).toNat*3+3≤z:=by omega
 have d4:((0:Nat):Int)<(m:Int):=by omega
 have d5:(0:Int)≤(i:Int):=by omega
 have d6:(i:Int)<(n:Int):=by omega
 have hq:∀ h:AHeap,vd P h BinOp.eql 35 (zi (Operand.tmp 44) || zi (Operand.tmp 48)) (AV.agg [AV.str (g 0).1,AV.int IntKind.i64 (g 0).2.1,AV.int IntKind.i64 (g 0).2.2]) (AV.agg [AV.str (f i).1,AV.int IntKind.i64 (f i).2.1,AV.int IntKind.i64 (f i).2.2])=some (AV.bool false):=fun h=>by rw [zo3,decide_eq_false he]
 have b2:∀ k,k<1*DS→∃ v,((T.leaf.node (some (AV.int IntKind.i64 (f i).2.1)) T.leaf).node (some (AV.str (f i).1)) (T.leaf.node (some (AV.int IntKind.i64 (f i).2.2)) T.leaf)).get (0+k)=some v∧v.one=true:=fun k hk=>zfn (f i) k (by rw [hD] at hk; omega)
 have c3:0+1*DS≤3:=by rw [hD]; omega
 have c5:0=0*DS:=(Nat.zero_mul _).symm
 have t1:=znm (D:=DS) (Z:=3+m*3) g m (f i) yM (by omega)
 have b3:∀ k,k<m*DS→∃ v,(T.fn fun c=>some (el g c)).get (0+k)=some v∧v.one=true:=fun k _=>⟨_,rfl,zfK g _⟩
 have r1:=zhp (1+m) (by omega)
 rw [← up1 i (by omega)] at h
 exact (og (zpb (R) (el f) (el g) (el (ins g 0 (f i))) (el zf) ((f i).1) ((g 0).1) ((f i).2.1) ((f i).2.2) ((g 0).2.1) ((g 0).2.2) ((i:Int)) 0 (n) (m) (z) (y) (3+m*3) 0 0 false (false) (false) GW _).symm ⟨c1,⟨Int.le_refl _,d4⟩,by omega,a2,⟨d5,d6⟩,d2,a1,hless,rfl,c1,⟨Int.le_refl _,d4⟩,by omega,a2,⟨d5,d6⟩,d2,a1,hq,rfl,⟨d5,d6⟩,d2,a1,⟨⟨by omega,b3⟩,by omega,c3,Nat.zero_le _,c5,r1,by omega⟩,t1,rfl,zh _,zh _,h⟩)
theorem zjN {i m y:Nat}{g:Nat→Dg}(hz:n*3≤z)(hn:n<100000)(hi:i<n)(h0:0<m)(hm:m≤i)(hy:m*3≤y)(hd:vL (f i)=true)(hg:So (sl f 0 i) (sl g 0 m))(hl:∀ t,t<m→(g t).1.length≤200)
 (next:∀ g' m' y',0<m'→m'≤i+1→m'*3≤y'→So (sl f 0 (i+1)) (sl g' 0 m')→SoD f n z (RsB (el f) (el g') ((i+1:Nat):Int) n m' z y' GW)) :
 ∀ s u,u+s=m→(∀ t,t<u→Lt (g t) (f i))→SoD f n z (RsC (el f) (el g) (i:Int) (u:Int) n m z y GW)
 | 0,u,hu,h1=>by
  have hum:u=m:=by omega
  have hs:=zmq (u:=u) hg hd (by omega) h1 (fun h=>absurd h (by omega))
  have e:sl f 0 (i+1)=sl f 0 i++[f i]:=by rw [x6,Nat.zero_add]
  rw [← e] at hs
  exact (next (ins g u (f i)) ((u:Int).toNat - 0+1) (u*3+3) (by omega) (by omega) (by omega) (zjI hs (by omega))).of fun R h=>zlC hz hn hi h0 hm hy hum h
 | s+1,u,hu,h1=>by
  have hless:=lt_ok (g u) (f i) (by have:=hl u (by omega); omega)
  have e:sl f 0 (i+1)=sl f 0 i++[f i]:=by rw [x6,Nat.zero_add]
  by_cases hb:Lt (g u) (f i)
  · rw [decide_eq_true hb] at hless
    exact (zjN hz hn hi h0 hm hy hd hg hl next s (u+1) (by omega) (fun t ht=>by
     by_cases e:t=u
     · subst e; exact hb
     · exact h1 t (by omega))).of fun R h=>zkP hz hn hi hm hy (by omega) hless h
  · rw [decide_eq_false hb] at hless
    by_cases he:g u=f i
    · have hs:So (sl f 0 (i+1)) (sl g 0 m):=by
       rw [e]
       exact ze2 hg fun _=>he▸vU g m 0 u (by omega) (by omega)
      exact (next g m y h0 (by omega) hy hs).of fun R h=>zlh hz hn hi hm hy (by omega) hless he h
    · have hlt:Lt (f i) (g u):=by
       rcases Lt.tri (g u) (f i) with a | a | a
       · exact absurd a hb
       · exact absurd a he
       · exact a
      have hs:=zmq (u:=u) hg hd (by omega) h1 (fun _=>hlt)
      rw [← e] at hs
      by_cases hu0:u=0
      · subst hu0
        exact (next (ins g 0 (f i)) (1+m) (3+m*3) (by omega) (by omega) (by omega) (zjI hs (by omega))).of fun R h=>zln hz hn hi h0 hm hy hless he h
      · exact (next (ins g u (f i)) ((u:Int).toNat - 0+1+(m - (u:Int).toNat)) (0+((u:Int).toNat - 0+1)*3+(m - (u:Int).toNat)*3) (by omega) (by omega) (by omega) (zjI hs (by omega))).of fun R h=>zkG hz hn hi hm hy (by omega) hu0 hless he h
theorem zfb (hz:n*3≤z)(hn:n<100000) :
 ∀ r i m y (g:Nat→Dg),i+r=n→0<m→m≤i→m*3≤y→So (sl f 0 i) (sl g 0 m)→SoD f n z (RsB (el f) (el g) (i:Int) n m z y GW)
 | 0,i,m,y,g,hi,h0,hm,hy,hg=>by
  obtain rfl:i=n:=by omega
  exact .inr ⟨g,m,y,h0,hm,hy,hg,(og (rBn (fun v h=>v=.slg 1 0 0 m 0∧h=HCw f g 0 z y) (el f) (el g) (el zf) (el zf) [] [] 0 0 0 0 ((i:Int)) 0 (i) (m) (z) (y) 0 0 0 false false false GW _).symm ⟨decide_eq_false (by omega),rfl,rfl⟩)⟩
 | r+1,i,m,y,g,hi,h0,hm,hy,hg=>by
  have a1:=xy f i
  have hw:=up1 i (by omega)
  have hmay:=zj3 (f i)
  have c1:decide ((i:Int)<((n:Nat):Int))=true:=decide_eq_true (by omega)
  have d2:0+((i:Int)).toNat*3+3≤z:=by omega
  have d5:(0:Int)≤(i:Int):=by omega
  have d6:(i:Int)<(n:Int):=by omega
  have e:sl f 0 (i+1)=sl f 0 i++[f i]:=by rw [x6,Nat.zero_add]
  by_cases hb:vL (f i)=true
  · rw [hb] at hmay
    refine (zjN hz hn (by omega) h0 hm hy hb hg (fun t ht=>?_) (fun g' m' y' k1 k2 k3 k4=>zfb hz hn r (i+1) m' y' g' (by omega) k1 k2 k3 k4) m 0 (by omega) (fun t ht=>absurd ht (by omega))).of fun R h=>?_
    · have k:=((hg.2 _).1 (vU g m 0 t (by omega) (by omega))).2
      have k:=of_decide_eq_true k
      omega
    · refine (og (rByn (R) (el f) (el g) (el zf) (el zf) ((f i).1) [] ((f i).2.1) ((f i).2.2) 0 0 ((i:Int)) 0 (n) (m) (z) (y) 0 0 0 (true) false false GW _).symm ?_)
      repeat' apply And.intro
      all_goals first | assumption | exact a1 | exact zh _ | rfl
  · have hb':=hb
    rw [Bool.not_eq_true] at hb
    rw [hb] at hmay
    refine (zfb hz hn r (i+1) m y g (by omega) h0 (by omega) hy (by rw [e]; exact ze2 hg fun h=>absurd h hb')).of fun R h=>?_
    rw [← hw] at h
    refine (og (rByy (R) (el f) (el g) (el zf) (el zf) ((f i).1) [] ((f i).2.1) ((f i).2.2) 0 0 ((i:Int)) 0 (n) (m) (z) (y) 0 0 0 (false) false false GW _).symm ?_)
    repeat' apply And.intro
    all_goals first | assumption | exact a1 | exact zh _ | rfl
theorem zhX (hz:n*3≤z)(hn:n<100000) :
 ∀ r i,i+r=n→So (sl f 0 i) []→SoD f n z (RsA (el f) (i:Int) n z GW)
 | 0,i,hi,hg=>by
  obtain rfl:i=n:=by omega
  exact .inl ⟨hg,(og (rAn (fun v h=>v=.nils 0 0∧h=HCo f 0 z) (el f) (el zf) (el zf) (el zf) [] [] 0 0 0 0 ((i:Int)) 0 (i) 0 (z) 0 0 0 0 false false false GW _).symm ⟨decide_eq_false (by omega),rfl,rfl⟩)⟩
 | r+1,i,hi,hg=>by
  have a1:=xy f i
  have hw:=up1 i (by omega)
  have hmay:=zj3 (f i)
  have c1:decide ((i:Int)<((n:Nat):Int))=true:=decide_eq_true (by omega)
  have d2:0+((i:Int)).toNat*3+3≤z:=by omega
  have d5:(0:Int)≤(i:Int):=by omega
  have d6:(i:Int)<(n:Int):=by omega
  have e:sl f 0 (i+1)=sl f 0 i++[f i]:=by rw [x6,Nat.zero_add]
  by_cases hb:vL (f i)=true
  · rw [hb] at hmay
    have hs:So (sl f 0 (i+1)) (sl (fun _=>f i) 0 1):=by
     rw [e]
     refine ⟨List.pairwise_singleton _ _,fun x=>?_⟩
     show x∈[f i] ↔ _
     rw [List.mem_append,List.mem_singleton]
     constructor
     · rintro rfl
       exact ⟨.inr rfl,hb⟩
     · rintro ⟨a | a,b⟩
       · exact absurd ((hg.2 x).2 ⟨a,b⟩) (by simp)
       · exact a
    refine (zfb hz hn r (i+1) 1 3 (fun _=>f i) (by omega) (by omega) (by omega) (by omega) hs).of fun R h=>?_
    rw [← hw] at h
    have t1:=zbP (f i).1 (f i).2.1 (f i).2.2
    have hd:Goal P 1 13 R (RsD (el f) (i:Int) n z GW):=by
     refine (og (rD (R) (el f) (el zf) (el fun _=>f i) (el zf) ((f i).1) [] ((f i).2.1) ((f i).2.2) 0 0 ((i:Int)) 0 (n) 0 (z) 0 (3) 0 0 false false false GW _).symm ?_)
     repeat' apply And.intro
     all_goals first | assumption | exact a1 | exact zh _ | rfl
    refine (og (rAyn (R) (el f) (el zf) (el zf) (el zf) ((f i).1) [] ((f i).2.1) ((f i).2.2) 0 0 ((i:Int)) 0 (n) 0 (z) 0 0 0 0 (true) false false GW _).symm ?_)
    repeat' apply And.intro
    all_goals first | assumption | exact a1 | exact zh _ | rfl
  · have hb':=hb
    rw [Bool.not_eq_true] at hb
    rw [hb] at hmay
    refine (zhX hz hn r (i+1) (by omega) (by rw [e]; exact ze2 hg fun h=>absurd h hb')).of fun R h=>?_
    rw [← hw] at h
    refine (og (rAyy (R) (el f) (el zf) (el zf) (el zf) ((f i).1) [] ((f i).2.1) ((f i).2.2) 0 0 ((i:Int)) 0 (n) 0 (z) 0 0 0 0 (false) false false GW _).symm ?_)
    repeat' apply And.intro
    all_goals first | assumption | exact a1 | exact zh _ | rfl
theorem zkF (hz:n*3≤z)(hn:n<100000):SoD f n z (ze P 13 [.slg 0 0 0 n 0] (HCo f 0 z)):=by
 refine (zhX (f:=f) hz hn n 0 (by omega) ⟨.nil,fun x=>by simp [sl]⟩).of fun R h=>?_
 exact (og (rs (R) (el f) (el zf) (el zf) (el zf) [] [] 0 0 0 0 0 0 (n) 0 (z) 0 0 0 0 false false false GW _).symm ⟨zh _,h⟩)
end
theorem zib:Goal P 0 13 (fun v h=>v=.nils 0 0∧h=⟨.leaf,0,GW⟩) (zb P 13 [.nils 0 0] GW) :=
 (og (rn (fun v h=>v=.nils 0 0∧h=⟨.leaf,0,GW⟩) (el zf) (el zf) (el zf) (el zf) [] [] 0 0 0 0 0 0 0 0 0 0 0 0 0 false false false GW _).symm ⟨rfl,rfl⟩)
theorem rput0 (n:Int):Goal P 0 51 (fun x _=>x=.str ([]++row (IntKind.u64.wrap n))) (zb P 51 [.str [],.int .u64 (IntKind.u64.wrap n)] GW) :=
 zeP [] _ (yi n).1 (yi n).2 (by show 0+9<_; omega)
theorem zhM {m z y:Nat}{f f':Nat→Dg}(hy:m*3≤y)(hm:m<100000)(hmay:∀ i,i<m→vL (f' i)=true){S:List UInt8} :
 ∀ r i (s:List UInt8),i+r=m→s.length≤9+i*227→s++(sl f' i r).flatMap one=S →
  Goal P 1 15 (fun v h=>v=.str S∧h=HCo f 0 z) (Er (el f) (el f') s (i:Int) m z y GW)
 | 0,i,s,hi,hs,hS=>by
  obtain rfl:i=m:=by omega
  obtain rfl:s=S:=by rw [← hS]; exact (List.append_nil s).symm
  exact (og (edn (fun v h=>v=.str s∧h=HCo f 0 z) (el f) (el f') (el zf) (el zf) [] [] (s) [] [] [] 0 0 0 0 ((i:Int)) 0 0 (i) 0 (z) (y) 0 0 0 0 false false false GW _).symm ⟨decide_eq_false (by omega),zh _,rfl,rfl⟩)
 | r+1,i,s,hi,hs,hS=>by
  have hd:=hmay i (by omega)
  have hlen:=zi7 hd
  have e1:s++row (IntKind.u64.wrap (f' i).1.length)++(f' i).1++row (IntKind.u64.wrap (f' i).2.1)++row (IntKind.u64.wrap (f' i).2.2)=s++one (f' i):=by
   unfold one zlI zd8
   simp only [List.append_assoc,List.nil_append]
  have ih:=zhM (z:=z) (f:=f) hy hm hmay (S:=S) r (i+1) (s++one (f' i)) (by omega) (by rw [List.length_append]; omega) (by
   rw [← hS,List.append_assoc]
   congr 1)
  rw [← e1,← up1 i (by omega)] at ih
  have hb:=of_decide_eq_true hd
  have l1:=zu (IntKind.u64.wrap (f' i).1.length)
  have l2:=zu (IntKind.u64.wrap (f' i).2.1)
  have p1:=rputt s (f' i).1 (by omega)
  have p2:=zeP (s++row (IntKind.u64.wrap (f' i).1.length)++(f' i).1) _ (yi (f' i).2.1).1 (yi (f' i).2.1).2 (by simp only [List.length_append]; omega)
  have p3:=zeP (s++row (IntKind.u64.wrap (f' i).1.length)++(f' i).1++row (IntKind.u64.wrap (f' i).2.1)) _ (yi (f' i).2.2).1 (yi (f' i).2.2).2 (by simp only [List.length_append]; omega)
  have c0:=el0 f' i
  have c1:=el1 f' i
  have c2:=el2 f' i
  have d0:decide ((i:Int)<((m:Nat):Int))=true:=decide_eq_true (by omega)
  have d1:0+((i:Int)).toNat*3+1≤y:=by omega
  have d2:0+((i:Int)).toNat*3+1+1≤y:=by omega
  have d3:0+((i:Int)).toNat*3+2+1≤y:=by omega
  have d5:(0:Int)≤(i:Int):=by omega
  have d6:(i:Int)<(m:Int):=by omega
  refine (og (er (fun v h=>v=.str S∧h=HCo f 0 z) (el f) (el f') (el zf) (el zf) ((f' i).1) [] (s) (s++row (IntKind.u64.wrap (f' i).1.length)++(f' i).1) (s++row (IntKind.u64.wrap (f' i).1.length)++(f' i).1++row (IntKind.u64.wrap (f' i).2.1)) (s++row (IntKind.u64.wrap (f' i).1.length)++(f' i).1++row (IntKind.u64.wrap (f' i).2.1)++row (IntKind.u64.wrap (f' i).2.2)) ((f' i).2.1) ((f' i).2.2) 0 0 ((i:Int)) 0 0 (m) 0 (z) (y) 0 0 0 0 false false false GW _).symm ?_)
  repeat' apply And.intro
  all_goals first | assumption | exact c0 | exact c1 | exact c2 | exact zh _ | rfl
theorem zhW {z n:Nat}{f:Nat→Dg}(hz:n*3≤z)(hn:n<100000){l:List Dg}(hl:So (sl f 0 n) l) :
 Goal P 1 15 (fun v h=>v=.str (zp l)∧h=HCo f 0 z) (ze P 15 [.slg 0 0 0 n 0] (HCo f 0 z)):=by
 rcases zkF (z:=z) (n:=n) (f:=f) hz hn with ⟨h1,h2⟩ | ⟨f',k,y,h1,h2,h3,h4,h5⟩
 · obtain rfl:l=[]:=So.uniq hl h1 fun _=>Iff.rfl
   have e:zp []=[]++row 0:=by unfold zp; rw [List.flatMap_nil,List.append_nil]; rfl
   have h51:=zeP [] 0 (by omega) (by omega) (by show 0+9<_; omega)
   rw [e]
   have hk:Goal P 1 15 (fun v h=>v=.str ([]++row 0)∧h=HCo f 0 z) (Ez (el f) ([]++row 0) z GW):=(og (ezd (fun v h=>v=.str ([]++row 0)∧h=HCo f 0 z) (el f) (el zf) (el zf) (el zf) [] [] ([]++row 0) [] [] [] 0 0 0 0 0 0 0 0 0 (z) 0 0 0 0 0 false false false GW _).symm ⟨zh _,rfl,rfl⟩)
   refine (og (ez (fun v h=>v=.str ([]++row 0)∧h=HCo f 0 z) (el f) (el zf) (el zf) (el zf) [] [] [] ([]++row 0) [] [] 0 0 0 0 0 0 (n) 0 0 (z) 0 0 0 0 0 false false false GW _).symm ?_)
   repeat' apply And.intro
   all_goals first | assumption | exact zh _ | rfl
 · obtain rfl:l=sl f' 0 k:=So.uniq hl h4 fun _=>Iff.rfl
   have h51:=rput0 (k:Nat)
   have hlr:=zu (IntKind.u64.wrap (k:Nat))
   have hloop:=zhM (z:=z) (y:=y) (f:=f) (f':=f') (m:=k) h3 (by omega) (fun i hi=>((h4.2 _).1 (vU f' k 0 i (by omega) (by omega))).2) (S:=zp (sl f' 0 k)) k 0 ([]++row (IntKind.u64.wrap (k:Nat))) (by omega) (by rw [List.length_append]; show 0+_≤_; omega) (by
    unfold zp
    rw [xO,znz k (by omega)])
   refine (og (esG (fun v h=>v=.str (zp (sl f' 0 k))∧h=HCo f 0 z) (el f) (el f') (el zf) (el zf) [] [] [] ([]++row (IntKind.u64.wrap (k:Nat))) [] [] 0 0 0 0 0 0 (n) (k) 0 (z) (y) 0 0 0 0 false false false GW _).symm ?_)
   repeat' apply And.intro
   all_goals first | assumption | exact zh _ | rfl
theorem zf0:Goal P 0 15 (fun v h=>v=.str (zp [])∧h=⟨.leaf,0,GW⟩) (zb P 15 [.nils 0 0] GW):=by
 have e:zp []=[]++row 0:=by unfold zp; rw [List.flatMap_nil,List.append_nil]; rfl
 rw [e]
 exact (og (en (fun v h=>v=.str ([]++row 0)∧h=⟨.leaf,0,GW⟩) (el zf) (el zf) (el zf) (el zf) [] [] [] ([]++row 0) [] [] 0 0 0 0 0 0 0 0 0 0 0 0 0 0 0 false false false GW _).symm ⟨zib,zeP [] 0 (by omega) (by omega) (by show 0+9<_; omega),rfl,rfl⟩)
end Go.Proofs.YtdbfpjgnlfejmaaDoor.dg
end
section
set_option maxRecDepth 100000
set_option linter.unusedVariables false
namespace Go.Proofs.YtdbfpjgnlfejmaaDoor.mq
open Go Ev
noncomputable def rh (left:List UInt8) (bad:Bool):AHeap:=⟨.node .leaf (some (.cells (.node (.node .leaf (some (.bool bad)) .leaf) (some (.str left)) .leaf) 2 86 0 0 1 0 false .leaf)) .leaf,1,GW⟩
theorem rd_sl (ρ:Operand→Option AV)(H:AHeap)(a b:Nat)(s:List UInt8)(hi:Int)(h:0≤hi∧hi≤s.length)(e1:ρ (.tmp a)=some (.str s))(e2:ρ (.tmp b)=some (.int .i64 hi)):y6 P ρ H (.slice 9 (.tmp a) none (some (.tmp b)) none)=some (.str (List.take (hi.toNat - 0) (List.drop 0 s))):=by
 have k:xM hi s.length=some hi.toNat:=by unfold xM; rw [if_pos h]
 have k1:zW s.length s.length none (some hi) none=some (0,hi.toNat,s.length):=by
  unfold zW x0 xH xx
  simp only [k]
 have k3:zag P 9 (.str s) none (some hi) none=some (.str (List.take (hi.toNat - 0) (List.drop 0 s))):=by
  have:zag P 9 (.str s) none (some hi) none=zlP s (zW s.length s.length none (some hi) none):=by kernel_rfl
  rw [this,k1]
  rfl
 have o1:qL ρ none=some none:=rfl
 have o2:qL ρ (some (.tmp b))=some (some hi):=by
  show (match ρ (.tmp b) with
   | some (.int _ n)=>some (some n)
   | _=>none)=_
  rw [e2]
 have k2:vu P ρ H 9 (.tmp a) none (some (.tmp b)) none=some (.str (List.take (hi.toNat - 0) (List.drop 0 s))):=by
  unfold vu
  rw [e1,o1,o2]
  show zbQ P H 9 (.str s) none (some hi) none=_
  unfold zbQ
  rw [k3]
 show (match qd H (vu P ρ H 9 (.tmp a) none (some (.tmp b)) none) with
  | some (.val v _)=>some v
  | _=>none)=_
 rw [k2]
 rfl
theorem wz (ρ:Operand→Option AV)(H:AHeap)(a b:Nat)(s:List UInt8)(hi:Int)(k:Nat)(e1:ρ (.tmp a)=some (.str s))(e2:ρ (.tmp b)=some (.int .i64 hi))(hk:hi=k)(h:k≤s.length):y6 P ρ H (.slice 9 (.tmp a) none (some (.tmp b)) none)=some (.str (List.take k (List.drop 0 s))):=by
 have r:=rd_sl ρ H a b s hi (by omega) e1 e2
 rw [show hi.toNat - 0=k by omega] at r
 exact r
theorem refE (bad:Bool)(R:AV→AHeap→Prop)(_K:AM→Prop):Obl P 60 (fun v H=>R v H) 1 _K [.run 45,.done] ((ze P 60 [.ptr 0 0 0] (rh [] bad)))=((R (.int .u64 0) (⟨(.node .leaf (some (.cells (.node (.node .leaf (some (.bool true)) .leaf) (some (.str [])) .leaf) 2 86 0 0 1 0 false .leaf)) .leaf),1,GW⟩))):=by kernel_rfl
section
set_option linter.unusedSectionVars false
variable (f:UInt8) (t w:List UInt8) (b:Int) (R:AV→AHeap→Prop) (_K:AM→Prop)
include f t w b R _K
theorem zoL:Obl P 60 (fun v H=>R v H) 1 _K [.run 37,.know 19 true,.run 19,.know 37 true,.run 32,.done] ((ze P 60 [.ptr 0 0 0] (rh (f::t) false)))=((decide (IntKind.i64.wrap (↑f.toNat:Int) > (249:Int))=true)∧(decide ((↑(f::t).length:Int)<IntKind.i64.wrap ((1:Int)+IntKind.i64.wrap (IntKind.i64.wrap (↑f.toNat:Int) - (247:Int))))=true)∧(R (.int .u64 0) (⟨(.node .leaf (some (.cells (.node (.node .leaf (some (.bool true)) .leaf) (some (.str [])) .leaf) 2 86 0 0 1 0 false .leaf)) .leaf),1,GW⟩))):=by kernel_rfl
theorem zgV:Obl P 60 (fun v H=>R v H) 1 _K [.run 37,.know 19 true,.run 19,.know 37 false,.run 10,.op,.run 1,(.callv [0] (.int .u64 b)),.run 10,.know 48 false,.run 7,.know 53 false,.run 7,.know 63 false,.run 13,.op,.run 1,(.callv [0,1] (.str w)),.run 2,.know 77 true,.run 32,.done] ((ze P 60 [.ptr 0 0 0] ⟨.node .leaf (some (.cells (.node (.node .leaf (some (.bool false)) .leaf) (some (.str (f::t))) .leaf) 2 86 0 0 1 0 false .leaf)) .leaf,1,GW⟩))=((decide (IntKind.i64.wrap (↑f.toNat:Int) > (249:Int))=true)∧(decide ((↑(f::t).length:Int)<IntKind.i64.wrap ((1:Int)+IntKind.i64.wrap (IntKind.i64.wrap (↑f.toNat:Int) - (247:Int))))=false)∧(((0:Int)≤IntKind.i64.wrap ((1:Int)+IntKind.i64.wrap (IntKind.i64.wrap (↑f.toNat:Int) - (247:Int)))∧IntKind.i64.wrap ((1:Int)+IntKind.i64.wrap (IntKind.i64.wrap (↑f.toNat:Int) - (247:Int)))≤(↑(f::t).length:Int))∧(0:Int)≤(1:Int)∧(1:Int)≤(↑(IntKind.i64.wrap ((1:Int)+IntKind.i64.wrap (IntKind.i64.wrap (↑f.toNat:Int) - (247:Int)))).toNat:Int))∧(Goal P 0 80 (fun x x_1=>x=AV.int .u64 b) (zb P 80 [.str (List.take ((IntKind.i64.wrap ((1:Int)+IntKind.i64.wrap (IntKind.i64.wrap (↑f.toNat:Int) - (247:Int)))).toNat - 1) (List.drop 1 (f::t)))] GW))∧(decide (IntKind.i64.wrap (↑f.toNat:Int)≤(240:Int))=false)∧(decide (IntKind.i64.wrap (↑f.toNat:Int)<(249:Int))=false)∧((IntKind.i64.wrap (↑f.toNat:Int)==(249:Int))=false)∧((0:Int)≤IntKind.i64.wrap ((1:Int)+IntKind.i64.wrap (IntKind.i64.wrap (↑f.toNat:Int) - (247:Int)))∧IntKind.i64.wrap ((1:Int)+IntKind.i64.wrap (IntKind.i64.wrap (↑f.toNat:Int) - (247:Int)))≤(↑(f::t).length:Int))∧(Goal P 0 51 (fun x x_1=>x=AV.str w) (zb P 51 [.str [],.int .u64 b] GW))∧((y6 P (ev (T.set (some (AV.str w)) (((((((T.leaf.node (some (AV.bool false)) T.leaf).node (some (AV.ptr 0 0 0)) T.leaf).node (some (AV.ptr 0 0 0)) (T.leaf.node (some (AV.int .u64 b)) T.leaf)).node (some (AV.ptr 0 0 0)) (((T.leaf.node (some (AV.ptr 0 0 0)) T.leaf).node none T.leaf).node (some (AV.int .i64 (IntKind.i64.wrap (IntKind.i64.wrap (↑f.toNat:Int) - (247:Int))))) (T.leaf.node (some (AV.bool (decide (IntKind.i64.wrap (↑f.toNat:Int)<(249:Int))))) T.leaf))).node (some (AV.int .i64 (IntKind.i64.wrap (↑f.toNat:Int)))) (((T.leaf.node (some (AV.int .i64 (IntKind.i64.wrap (IntKind.i64.wrap (↑f.toNat:Int) - (247:Int))))) T.leaf).node (some (AV.bool true)) T.leaf).node none (((T.leaf.node (some (AV.int .i64 (IntKind.i64.wrap ((1:Int)+IntKind.i64.wrap (IntKind.i64.wrap (↑f.toNat:Int) - (247:Int)))))) T.leaf).node (some (AV.str (f::t))) T.leaf).node none T.leaf))).node none (((((T.leaf.node (some (AV.bool (IntKind.i64.wrap (↑f.toNat:Int)==(249:Int)))) T.leaf).node (some (AV.str (f::t))) T.leaf).node (some (AV.int .u8 (↑f.toNat:Int))) (T.leaf.node (some (AV.int .i64 (IntKind.i64.wrap (↑f.toNat:Int)))) T.leaf)).node (some (AV.str (f::t))) (((T.leaf.node (some (AV.str (f::t))) T.leaf).node (some (AV.ptr 0 0 0)) T.leaf).node none T.leaf)).node (some (AV.int .u64 b)) (((T.leaf.node (some (AV.bool false)) T.leaf).node (some (AV.bool (decide (IntKind.i64.wrap (↑f.toNat:Int) > (249:Int))))) (T.leaf.node (some (AV.bool false)) T.leaf)).node (some (AV.ptr 0 0 0)) ((T.leaf.node (some (AV.int .i64 (IntKind.i64.wrap ((1:Int)+IntKind.i64.wrap (IntKind.i64.wrap (↑f.toNat:Int) - (247:Int)))))) T.leaf).node none T.leaf)))).node (some (AV.ptr 0 0 0)) ((((((T.leaf.node (some (AV.int .i64 (IntKind.i64.wrap (↑f.toNat:Int)))) T.leaf).node (some (AV.ptr 0 0 0)) T.leaf).node (some (AV.str (f::t))) (T.leaf.node (some (AV.bool false)) T.leaf)).node (some (AV.ptr 0 0 0)) (((T.leaf.node (some (AV.ptr 0 0 0)) T.leaf).node (some (AV.ptr 0 0 0)) T.leaf).node none T.leaf)).node (some (AV.int .i64 (IntKind.i64.wrap (IntKind.i64.wrap (↑f.toNat:Int) - (247:Int))))) ((((T.leaf.node (some (AV.int .u64 b)) T.leaf).node (some (AV.int .i64 (IntKind.i64.wrap ((1:Int)+IntKind.i64.wrap (IntKind.i64.wrap (↑f.toNat:Int) - (247:Int)))))) T.leaf).node (some (AV.int .i64 (IntKind.i64.wrap (↑f.toNat:Int)))) T.leaf).node none (((T.leaf.node (some (AV.str (List.take ((IntKind.i64.wrap ((1:Int)+IntKind.i64.wrap (IntKind.i64.wrap (↑f.toNat:Int) - (247:Int)))).toNat - 0) (List.drop 0 (f::t))))) T.leaf).node (some (AV.int .i64 (IntKind.i64.wrap (IntKind.i64.wrap (↑f.toNat:Int) - (247:Int))))) T.leaf).node none T.leaf))).node (some (AV.int .u64 (Int.ofNat 0))) ((((T.leaf.node (some (AV.int .i64 (↑(f::t).length:Int))) T.leaf).node (some (AV.int .i64 (IntKind.i64.wrap (↑f.toNat:Int)))) (T.leaf.node (some (AV.bool (decide (IntKind.i64.wrap (↑f.toNat:Int)≤(240:Int))))) T.leaf)).node (some (AV.bool false)) (((T.leaf.node (some (AV.int .i64 (IntKind.i64.wrap (IntKind.i64.wrap (↑f.toNat:Int) - (247:Int))))) T.leaf).node (some (AV.ptr 0 0 0)) T.leaf).node none T.leaf)).node (some (AV.ptr 0 0 0)) ((((T.leaf.node (some (AV.ptr 0 0 0)) T.leaf).node none T.leaf).node (some (AV.int .i64 (IntKind.i64.wrap (↑f.toNat:Int)))) (T.leaf.node (some (AV.int .i64 (IntKind.i64.wrap (↑f.toNat:Int)))) T.leaf)).node (some (AV.ptr 0 0 0)) ((T.leaf.node (some (AV.str (List.take ((IntKind.i64.wrap ((1:Int)+IntKind.i64.wrap (IntKind.i64.wrap (↑f.toNat:Int) - (247:Int)))).toNat - 1) (List.drop 1 (f::t))))) T.leaf).node (some (AV.ptr 0 0 0)) T.leaf))))) 69)) { objs:=T.leaf.node (some (AObj.cells ((T.leaf.node (some (AV.bool false)) T.leaf).node (some (AV.str (f::t))) T.leaf) 2 86 0 0 1 0 false T.leaf)) T.leaf,next:=1,glob:=GW } (Op.slice 9 (Operand.tmp 73) none (some (Operand.tmp 75)) none))=some (AV.str (List.take ((IntKind.i64.wrap ((1:Int)+IntKind.i64.wrap (IntKind.i64.wrap (↑f.toNat:Int) - (247:Int)))).toNat - 0) (List.drop 0 (f::t)))))∧(some (AV.int .i64 (IntKind.i64.wrap ((1:Int)+IntKind.i64.wrap (IntKind.i64.wrap (↑f.toNat:Int) - (247:Int)))))=some (AV.int .i64 (IntKind.i64.wrap ((1:Int)+IntKind.i64.wrap (IntKind.i64.wrap (↑f.toNat:Int) - (247:Int))))))∧(some (AV.str (f::t))=some (AV.str (f::t)))∧((!w==List.take ((IntKind.i64.wrap ((1:Int)+IntKind.i64.wrap (IntKind.i64.wrap (↑f.toNat:Int) - (247:Int)))).toNat - 0) (List.drop 0 (f::t)))=true)∧(R (.int .u64 0) (⟨(.node .leaf (some (.cells (.node (.node .leaf (some (.bool true)) .leaf) (some (.str [])) .leaf) 2 86 0 0 1 0 false .leaf)) .leaf),1,GW⟩))):=by kernel_rfl
theorem zgQ:Obl P 60 (fun v H=>R v H) 1 _K [.run 37,.know 19 true,.run 19,.know 37 false,.run 10,.op,.run 1,(.callv [0] (.int .u64 b)),.run 10,.know 48 false,.run 7,.know 53 false,.run 7,.know 63 false,.run 13,.op,.run 1,(.callv [0,1] (.str w)),.run 2,.know 77 false,.run 11,.op,.run 10,.done] ((ze P 60 [.ptr 0 0 0] ⟨.node .leaf (some (.cells (.node (.node .leaf (some (.bool false)) .leaf) (some (.str (f::t))) .leaf) 2 86 0 0 1 0 false .leaf)) .leaf,1,GW⟩))=((decide (IntKind.i64.wrap (↑f.toNat:Int) > (249:Int))=true)∧(decide ((↑(f::t).length:Int)<IntKind.i64.wrap ((1:Int)+IntKind.i64.wrap (IntKind.i64.wrap (↑f.toNat:Int) - (247:Int))))=false)∧(((0:Int)≤IntKind.i64.wrap ((1:Int)+IntKind.i64.wrap (IntKind.i64.wrap (↑f.toNat:Int) - (247:Int)))∧IntKind.i64.wrap ((1:Int)+IntKind.i64.wrap (IntKind.i64.wrap (↑f.toNat:Int) - (247:Int)))≤(↑(f::t).length:Int))∧(0:Int)≤(1:Int)∧(1:Int)≤(↑(IntKind.i64.wrap ((1:Int)+IntKind.i64.wrap (IntKind.i64.wrap (↑f.toNat:Int) - (247:Int)))).toNat:Int))∧(Goal P 0 80 (fun x x_1=>x=AV.int .u64 b) (zb P 80 [.str (List.take ((IntKind.i64.wrap ((1:Int)+IntKind.i64.wrap (IntKind.i64.wrap (↑f.toNat:Int) - (247:Int)))).toNat - 1) (List.drop 1 (f::t)))] GW))∧(decide (IntKind.i64.wrap (↑f.toNat:Int)≤(240:Int))=false)∧(decide (IntKind.i64.wrap (↑f.toNat:Int)<(249:Int))=false)∧((IntKind.i64.wrap (↑f.toNat:Int)==(249:Int))=false)∧((0:Int)≤IntKind.i64.wrap ((1:Int)+IntKind.i64.wrap (IntKind.i64.wrap (↑f.toNat:Int) - (247:Int)))∧IntKind.i64.wrap ((1:Int)+IntKind.i64.wrap (IntKind.i64.wrap (↑f.toNat:Int) - (247:Int)))≤(↑(f::t).length:Int))∧(Goal P 0 51 (fun x x_1=>x=AV.str w) (zb P 51 [.str [],.int .u64 b] GW))∧((y6 P (ev (T.set (some (AV.str w)) (((((((T.leaf.node (some (AV.bool false)) T.leaf).node (some (AV.ptr 0 0 0)) T.leaf).node (some (AV.ptr 0 0 0)) (T.leaf.node (some (AV.int .u64 b)) T.leaf)).node (some (AV.ptr 0 0 0)) (((T.leaf.node (some (AV.ptr 0 0 0)) T.leaf).node none T.leaf).node (some (AV.int .i64 (IntKind.i64.wrap (IntKind.i64.wrap (↑f.toNat:Int) - (247:Int))))) (T.leaf.node (some (AV.bool (decide (IntKind.i64.wrap (↑f.toNat:Int)<(249:Int))))) T.leaf))).node (some (AV.int .i64 (IntKind.i64.wrap (↑f.toNat:Int)))) (((T.leaf.node (some (AV.int .i64 (IntKind.i64.wrap (IntKind.i64.wrap (↑f.toNat:Int) - (247:Int))))) T.leaf).node (some (AV.bool true)) T.leaf).node none (((T.leaf.node (some (AV.int .i64 (IntKind.i64.wrap ((1:Int)+IntKind.i64.wrap (IntKind.i64.wrap (↑f.toNat:Int) - (247:Int)))))) T.leaf).node (some (AV.str (f::t))) T.leaf).node none T.leaf))).node none (((((T.leaf.node (some (AV.bool (IntKind.i64.wrap (↑f.toNat:Int)==(249:Int)))) T.leaf).node (some (AV.str (f::t))) T.leaf).node (some (AV.int .u8 (↑f.toNat:Int))) (T.leaf.node (some (AV.int .i64 (IntKind.i64.wrap (↑f.toNat:Int)))) T.leaf)).node (some (AV.str (f::t))) (((T.leaf.node (some (AV.str (f::t))) T.leaf).node (some (AV.ptr 0 0 0)) T.leaf).node none T.leaf)).node (some (AV.int .u64 b)) (((T.leaf.node (some (AV.bool false)) T.leaf).node (some (AV.bool (decide (IntKind.i64.wrap (↑f.toNat:Int) > (249:Int))))) (T.leaf.node (some (AV.bool false)) T.leaf)).node (some (AV.ptr 0 0 0)) ((T.leaf.node (some (AV.int .i64 (IntKind.i64.wrap ((1:Int)+IntKind.i64.wrap (IntKind.i64.wrap (↑f.toNat:Int) - (247:Int)))))) T.leaf).node none T.leaf)))).node (some (AV.ptr 0 0 0)) ((((((T.leaf.node (some (AV.int .i64 (IntKind.i64.wrap (↑f.toNat:Int)))) T.leaf).node (some (AV.ptr 0 0 0)) T.leaf).node (some (AV.str (f::t))) (T.leaf.node (some (AV.bool false)) T.leaf)).node (some (AV.ptr 0 0 0)) (((T.leaf.node (some (AV.ptr 0 0 0)) T.leaf).node (some (AV.ptr 0 0 0)) T.leaf).node none T.leaf)).node (some (AV.int .i64 (IntKind.i64.wrap (IntKind.i64.wrap (↑f.toNat:Int) - (247:Int))))) ((((T.leaf.node (some (AV.int .u64 b)) T.leaf).node (some (AV.int .i64 (IntKind.i64.wrap ((1:Int)+IntKind.i64.wrap (IntKind.i64.wrap (↑f.toNat:Int) - (247:Int)))))) T.leaf).node (some (AV.int .i64 (IntKind.i64.wrap (↑f.toNat:Int)))) T.leaf).node none (((T.leaf.node (some (AV.str (List.take ((IntKind.i64.wrap ((1:Int)+IntKind.i64.wrap (IntKind.i64.wrap (↑f.toNat:Int) - (247:Int)))).toNat - 0) (List.drop 0 (f::t))))) T.leaf).node (some (AV.int .i64 (IntKind.i64.wrap (IntKind.i64.wrap (↑f.toNat:Int) - (247:Int))))) T.leaf).node none T.leaf))).node (some (AV.int .u64 (Int.ofNat 0))) ((((T.leaf.node (some (AV.int .i64 (↑(f::t).length:Int))) T.leaf).node (some (AV.int .i64 (IntKind.i64.wrap (↑f.toNat:Int)))) (T.leaf.node (some (AV.bool (decide (IntKind.i64.wrap (↑f.toNat:Int)≤(240:Int))))) T.leaf)).node (some (AV.bool false)) (((T.leaf.node (some (AV.int .i64 (IntKind.i64.wrap (IntKind.i64.wrap (↑f.toNat:Int) - (247:Int))))) T.leaf).node (some (AV.ptr 0 0 0)) T.leaf).node none T.leaf)).node (some (AV.ptr 0 0 0)) ((((T.leaf.node (some (AV.ptr 0 0 0)) T.leaf).node none T.leaf).node (some (AV.int .i64 (IntKind.i64.wrap (↑f.toNat:Int)))) (T.leaf.node (some (AV.int .i64 (IntKind.i64.wrap (↑f.toNat:Int)))) T.leaf)).node (some (AV.ptr 0 0 0)) ((T.leaf.node (some (AV.str (List.take ((IntKind.i64.wrap ((1:Int)+IntKind.i64.wrap (IntKind.i64.wrap (↑f.toNat:Int) - (247:Int)))).toNat - 1) (List.drop 1 (f::t))))) T.leaf).node (some (AV.ptr 0 0 0)) T.leaf))))) 69)) { objs:=T.leaf.node (some (AObj.cells ((T.leaf.node (some (AV.bool false)) T.leaf).node (some (AV.str (f::t))) T.leaf) 2 86 0 0 1 0 false T.leaf)) T.leaf,next:=1,glob:=GW } (Op.slice 9 (Operand.tmp 73) none (some (Operand.tmp 75)) none))=some (AV.str (List.take ((IntKind.i64.wrap ((1:Int)+IntKind.i64.wrap (IntKind.i64.wrap (↑f.toNat:Int) - (247:Int)))).toNat - 0) (List.drop 0 (f::t)))))∧(some (AV.int .i64 (IntKind.i64.wrap ((1:Int)+IntKind.i64.wrap (IntKind.i64.wrap (↑f.toNat:Int) - (247:Int)))))=some (AV.int .i64 (IntKind.i64.wrap ((1:Int)+IntKind.i64.wrap (IntKind.i64.wrap (↑f.toNat:Int) - (247:Int))))))∧(some (AV.str (f::t))=some (AV.str (f::t)))∧((!w==List.take ((IntKind.i64.wrap ((1:Int)+IntKind.i64.wrap (IntKind.i64.wrap (↑f.toNat:Int) - (247:Int)))).toNat - 0) (List.drop 0 (f::t)))=false)∧((0:Int)≤IntKind.i64.wrap ((1:Int)+IntKind.i64.wrap (IntKind.i64.wrap (↑f.toNat:Int) - (247:Int)))∧IntKind.i64.wrap ((1:Int)+IntKind.i64.wrap (IntKind.i64.wrap (↑f.toNat:Int) - (247:Int)))≤(↑(f::t).length:Int))∧(R (.int .u64 b) (⟨(.node .leaf (some (.cells (.node (.node .leaf (some (.bool false)) .leaf) (some (.str (List.take ((f::t).length - (IntKind.i64.wrap ((1:Int)+IntKind.i64.wrap (IntKind.i64.wrap (↑f.toNat:Int) - (247:Int)))).toNat) (List.drop (IntKind.i64.wrap ((1:Int)+IntKind.i64.wrap (IntKind.i64.wrap (↑f.toNat:Int) - (247:Int)))).toNat (f::t))))) .leaf) 2 86 0 0 1 0 false .leaf)) .leaf),1,GW⟩))):=by kernel_rfl
theorem zm1:Obl P 60 (fun v H=>R v H) 1 _K [.run 37,.know 19 false,.run 7,.know 24 true,.run 17,.know 37 true,.run 32,.done] ((ze P 60 [.ptr 0 0 0] (rh (f::t) false)))=((decide (IntKind.i64.wrap (↑f.toNat:Int) > (249:Int))=false)∧((IntKind.i64.wrap (↑f.toNat:Int)==(249:Int))=true)∧(decide ((↑(f::t).length:Int)<Int.ofNat (nat_lit 3))=true)∧(R (.int .u64 0) (⟨(.node .leaf (some (.cells (.node (.node .leaf (some (.bool true)) .leaf) (some (.str [])) .leaf) 2 86 0 0 1 0 false .leaf)) .leaf),1,GW⟩))):=by kernel_rfl
theorem zgN:Obl P 60 (fun v H=>R v H) 1 _K [.run 37,.know 19 false,.run 7,.know 24 true,.run 17,.know 37 false,.run 10,.op,.run 1,(.callv [0] (.int .u64 b)),.run 10,.know 48 false,.run 7,.know 53 false,.run 7,.know 63 true,.run 17,.op,.run 1,(.callv [0,1] (.str w)),.run 2,.know 77 true,.run 32,.done] ((ze P 60 [.ptr 0 0 0] ⟨.node .leaf (some (.cells (.node (.node .leaf (some (.bool false)) .leaf) (some (.str (f::t))) .leaf) 2 86 0 0 1 0 false .leaf)) .leaf,1,GW⟩))=((decide (IntKind.i64.wrap (↑f.toNat:Int) > (249:Int))=false)∧((IntKind.i64.wrap (↑f.toNat:Int)==(249:Int))=true)∧(decide ((↑(f::t).length:Int)<Int.ofNat 3)=false)∧(((0:Int)≤Int.ofNat 3∧Int.ofNat 3≤(↑(f::t).length:Int))∧(0:Int)≤(1:Int)∧(1:Int)≤(↑(3):Int))∧(Goal P 0 80 (fun x x_1=>x=AV.int .u64 b) (zb P 80 [.str (List.take 2 (List.drop 1 (f::t)))] GW))∧(decide (IntKind.i64.wrap (↑f.toNat:Int)≤(240:Int))=false)∧(decide (IntKind.i64.wrap (↑f.toNat:Int)<(249:Int))=false)∧((IntKind.i64.wrap (↑f.toNat:Int)==(249:Int))=true)∧((0:Int)≤Int.ofNat 3∧Int.ofNat 3≤(↑(f::t).length:Int))∧(Goal P 0 51 (fun x x_1=>x=AV.str w) (zb P 51 [.str [],.int .u64 (IntKind.u64.wrap (b+(2288:Int)))] GW))∧((y6 P (ev (T.set (some (AV.str w)) (((((((T.leaf.node (some (AV.bool true)) T.leaf).node (some (AV.ptr 0 0 0)) T.leaf).node (some (AV.ptr 0 0 0)) (T.leaf.node (some (AV.int .u64 b)) T.leaf)).node (some (AV.ptr 0 0 0)) (((T.leaf.node (some (AV.ptr 0 0 0)) T.leaf).node none T.leaf).node none (T.leaf.node (some (AV.bool (decide (IntKind.i64.wrap (↑f.toNat:Int)<(249:Int))))) T.leaf))).node (some (AV.int .i64 (IntKind.i64.wrap (↑f.toNat:Int)))) ((((T.leaf.node (some (AV.int .u64 (IntKind.u64.wrap (b+(2288:Int))))) T.leaf).node (some (AV.int .i64 (Int.ofNat 2))) T.leaf).node (some (AV.bool false)) T.leaf).node none (((T.leaf.node (some (AV.int .i64 (Int.ofNat 3))) T.leaf).node (some (AV.str (f::t))) T.leaf).node none T.leaf))).node none (((((T.leaf.node (some (AV.bool (IntKind.i64.wrap (↑f.toNat:Int)==(249:Int)))) T.leaf).node (some (AV.str (f::t))) T.leaf).node (some (AV.int .u8 (↑f.toNat:Int))) (T.leaf.node (some (AV.int .i64 (IntKind.i64.wrap (↑f.toNat:Int)))) T.leaf)).node (some (AV.str (f::t))) (((T.leaf.node (some (AV.str (f::t))) T.leaf).node (some (AV.ptr 0 0 0)) T.leaf).node (some (AV.int .i64 (IntKind.i64.wrap (↑f.toNat:Int)))) T.leaf)).node (some (AV.int .u64 (IntKind.u64.wrap (b+(2288:Int))))) (((T.leaf.node (some (AV.bool false)) T.leaf).node (some (AV.bool (decide (IntKind.i64.wrap (↑f.toNat:Int) > (249:Int))))) (T.leaf.node (some (AV.bool false)) T.leaf)).node (some (AV.ptr 0 0 0)) ((T.leaf.node (some (AV.int .i64 (Int.ofNat 3))) T.leaf).node none T.leaf)))).node (some (AV.ptr 0 0 0)) ((((((T.leaf.node (some (AV.int .i64 (IntKind.i64.wrap (↑f.toNat:Int)))) T.leaf).node (some (AV.ptr 0 0 0)) T.leaf).node (some (AV.str (f::t))) (T.leaf.node (some (AV.bool false)) T.leaf)).node (some (AV.ptr 0 0 0)) (((T.leaf.node (some (AV.ptr 0 0 0)) T.leaf).node (some (AV.ptr 0 0 0)) T.leaf).node (some (AV.bool true)) T.leaf)).node (some (AV.int .i64 (Int.ofNat 2))) ((((T.leaf.node (some (AV.int .u64 (IntKind.u64.wrap (b+(2288:Int))))) T.leaf).node (some (AV.int .i64 (Int.ofNat 3))) T.leaf).node (some (AV.int .i64 (IntKind.i64.wrap (↑f.toNat:Int)))) T.leaf).node none (((T.leaf.node (some (AV.str (List.take 3 (List.drop 0 (f::t))))) T.leaf).node (some (AV.int .i64 (Int.ofNat 2))) T.leaf).node none T.leaf))).node (some (AV.int .u64 (Int.ofNat 0))) (((((T.leaf.node (some (AV.int .u64 b)) T.leaf).node (some (AV.int .i64 (↑(f::t).length:Int))) T.leaf).node (some (AV.int .i64 (IntKind.i64.wrap (↑f.toNat:Int)))) (T.leaf.node (some (AV.bool (decide (IntKind.i64.wrap (↑f.toNat:Int)≤(240:Int))))) T.leaf)).node (some (AV.bool false)) (((T.leaf.node (some (AV.int .i64 (Int.ofNat 2))) T.leaf).node (some (AV.ptr 0 0 0)) T.leaf).node (some (AV.bool (IntKind.i64.wrap (↑f.toNat:Int)==(249:Int)))) T.leaf)).node (some (AV.ptr 0 0 0)) ((((T.leaf.node (some (AV.ptr 0 0 0)) T.leaf).node none T.leaf).node none (T.leaf.node (some (AV.int .i64 (IntKind.i64.wrap (↑f.toNat:Int)))) T.leaf)).node (some (AV.ptr 0 0 0)) ((T.leaf.node (some (AV.str (List.take 2 (List.drop 1 (f::t))))) T.leaf).node (some (AV.ptr 0 0 0)) T.leaf))))) 69)) { objs:=T.leaf.node (some (AObj.cells ((T.leaf.node (some (AV.bool false)) T.leaf).node (some (AV.str (f::t))) T.leaf) 2 86 0 0 1 0 false T.leaf)) T.leaf,next:=1,glob:=GW } (Op.slice 9 (Operand.tmp 73) none (some (Operand.tmp 75)) none))=some (AV.str (List.take 3 (List.drop 0 (f::t)))))∧(some (AV.int .i64 (Int.ofNat 3))=some (AV.int .i64 (Int.ofNat 3)))∧(some (AV.str (f::t))=some (AV.str (f::t)))∧((!w==List.take 3 (List.drop 0 (f::t)))=true)∧(R (.int .u64 0) (⟨(.node .leaf (some (.cells (.node (.node .leaf (some (.bool true)) .leaf) (some (.str [])) .leaf) 2 86 0 0 1 0 false .leaf)) .leaf),1,GW⟩))):=by kernel_rfl
theorem zhi:Obl P 60 (fun v H=>R v H) 1 _K [.run 37,.know 19 false,.run 7,.know 24 true,.run 17,.know 37 false,.run 10,.op,.run 1,(.callv [0] (.int .u64 b)),.run 10,.know 48 false,.run 7,.know 53 false,.run 7,.know 63 true,.run 17,.op,.run 1,(.callv [0,1] (.str w)),.run 2,.know 77 false,.run 11,.op,.run 10,.done] ((ze P 60 [.ptr 0 0 0] ⟨.node .leaf (some (.cells (.node (.node .leaf (some (.bool false)) .leaf) (some (.str (f::t))) .leaf) 2 86 0 0 1 0 false .leaf)) .leaf,1,GW⟩))=((decide (IntKind.i64.wrap (↑f.toNat:Int) > (249:Int))=false)∧((IntKind.i64.wrap (↑f.toNat:Int)==(249:Int))=true)∧(decide ((↑(f::t).length:Int)<Int.ofNat 3)=false)∧(((0:Int)≤Int.ofNat 3∧Int.ofNat 3≤(↑(f::t).length:Int))∧(0:Int)≤(1:Int)∧(1:Int)≤(↑(3):Int))∧(Goal P 0 80 (fun x x_1=>x=AV.int .u64 b) (zb P 80 [.str (List.take 2 (List.drop 1 (f::t)))] GW))∧(decide (IntKind.i64.wrap (↑f.toNat:Int)≤(240:Int))=false)∧(decide (IntKind.i64.wrap (↑f.toNat:Int)<(249:Int))=false)∧((IntKind.i64.wrap (↑f.toNat:Int)==(249:Int))=true)∧((0:Int)≤Int.ofNat 3∧Int.ofNat 3≤(↑(f::t).length:Int))∧(Goal P 0 51 (fun x x_1=>x=AV.str w) (zb P 51 [.str [],.int .u64 (IntKind.u64.wrap (b+(2288:Int)))] GW))∧((y6 P (ev (T.set (some (AV.str w)) (((((((T.leaf.node (some (AV.bool true)) T.leaf).node (some (AV.ptr 0 0 0)) T.leaf).node (some (AV.ptr 0 0 0)) (T.leaf.node (some (AV.int .u64 b)) T.leaf)).node (some (AV.ptr 0 0 0)) (((T.leaf.node (some (AV.ptr 0 0 0)) T.leaf).node none T.leaf).node none (T.leaf.node (some (AV.bool (decide (IntKind.i64.wrap (↑f.toNat:Int)<(249:Int))))) T.leaf))).node (some (AV.int .i64 (IntKind.i64.wrap (↑f.toNat:Int)))) ((((T.leaf.node (some (AV.int .u64 (IntKind.u64.wrap (b+(2288:Int))))) T.leaf).node (some (AV.int .i64 (Int.ofNat 2))) T.leaf).node (some (AV.bool false)) T.leaf).node none (((T.leaf.node (some (AV.int .i64 (Int.ofNat 3))) T.leaf).node (some (AV.str (f::t))) T.leaf).node none T.leaf))).node none (((((T.leaf.node (some (AV.bool (IntKind.i64.wrap (↑f.toNat:Int)==(249:Int)))) T.leaf).node (some (AV.str (f::t))) T.leaf).node (some (AV.int .u8 (↑f.toNat:Int))) (T.leaf.node (some (AV.int .i64 (IntKind.i64.wrap (↑f.toNat:Int)))) T.leaf)).node (some (AV.str (f::t))) (((T.leaf.node (some (AV.str (f::t))) T.leaf).node (some (AV.ptr 0 0 0)) T.leaf).node (some (AV.int .i64 (IntKind.i64.wrap (↑f.toNat:Int)))) T.leaf)).node (some (AV.int .u64 (IntKind.u64.wrap (b+(2288:Int))))) (((T.leaf.node (some (AV.bool false)) T.leaf).node (some (AV.bool (decide (IntKind.i64.wrap (↑f.toNat:Int) > (249:Int))))) (T.leaf.node (some (AV.bool false)) T.leaf)).node (some (AV.ptr 0 0 0)) ((T.leaf.node (some (AV.int .i64 (Int.ofNat 3))) T.leaf).node none T.leaf)))).node (some (AV.ptr 0 0 0)) ((((((T.leaf.node (some (AV.int .i64 (IntKind.i64.wrap (↑f.toNat:Int)))) T.leaf).node (some (AV.ptr 0 0 0)) T.leaf).node (some (AV.str (f::t))) (T.leaf.node (some (AV.bool false)) T.leaf)).node (some (AV.ptr 0 0 0)) (((T.leaf.node (some (AV.ptr 0 0 0)) T.leaf).node (some (AV.ptr 0 0 0)) T.leaf).node (some (AV.bool true)) T.leaf)).node (some (AV.int .i64 (Int.ofNat 2))) ((((T.leaf.node (some (AV.int .u64 (IntKind.u64.wrap (b+(2288:Int))))) T.leaf).node (some (AV.int .i64 (Int.ofNat 3))) T.leaf).node (some (AV.int .i64 (IntKind.i64.wrap (↑f.toNat:Int)))) T.leaf).node none (((T.leaf.node (some (AV.str (List.take 3 (List.drop 0 (f::t))))) T.leaf).node (some (AV.int .i64 (Int.ofNat 2))) T.leaf).node none T.leaf))).node (some (AV.int .u64 (Int.ofNat 0))) (((((T.leaf.node (some (AV.int .u64 b)) T.leaf).node (some (AV.int .i64 (↑(f::t).length:Int))) T.leaf).node (some (AV.int .i64 (IntKind.i64.wrap (↑f.toNat:Int)))) (T.leaf.node (some (AV.bool (decide (IntKind.i64.wrap (↑f.toNat:Int)≤(240:Int))))) T.leaf)).node (some (AV.bool false)) (((T.leaf.node (some (AV.int .i64 (Int.ofNat 2))) T.leaf).node (some (AV.ptr 0 0 0)) T.leaf).node (some (AV.bool (IntKind.i64.wrap (↑f.toNat:Int)==(249:Int)))) T.leaf)).node (some (AV.ptr 0 0 0)) ((((T.leaf.node (some (AV.ptr 0 0 0)) T.leaf).node none T.leaf).node none (T.leaf.node (some (AV.int .i64 (IntKind.i64.wrap (↑f.toNat:Int)))) T.leaf)).node (some (AV.ptr 0 0 0)) ((T.leaf.node (some (AV.str (List.take 2 (List.drop 1 (f::t))))) T.leaf).node (some (AV.ptr 0 0 0)) T.leaf))))) 69)) { objs:=T.leaf.node (some (AObj.cells ((T.leaf.node (some (AV.bool false)) T.leaf).node (some (AV.str (f::t))) T.leaf) 2 86 0 0 1 0 false T.leaf)) T.leaf,next:=1,glob:=GW } (Op.slice 9 (Operand.tmp 73) none (some (Operand.tmp 75)) none))=some (AV.str (List.take 3 (List.drop 0 (f::t)))))∧(some (AV.int .i64 (Int.ofNat 3))=some (AV.int .i64 (Int.ofNat 3)))∧(some (AV.str (f::t))=some (AV.str (f::t)))∧((!w==List.take 3 (List.drop 0 (f::t)))=false)∧((0:Int)≤Int.ofNat 3∧Int.ofNat 3≤(↑(f::t).length:Int))∧(R (.int .u64 (IntKind.u64.wrap (b+(2288:Int)))) (⟨(.node .leaf (some (.cells (.node (.node .leaf (some (.bool false)) .leaf) (some (.str (List.take ((f::t).length - 3) (List.drop 3 (f::t))))) .leaf) 2 86 0 0 1 0 false .leaf)) .leaf),1,GW⟩))):=by kernel_rfl
theorem zlm:Obl P 60 (fun v H=>R v H) 1 _K [.run 37,.know 19 false,.run 7,.know 24 false,.run 7,.know 27 true,.run 17,.know 37 true,.run 32,.done] ((ze P 60 [.ptr 0 0 0] (rh (f::t) false)))=((decide (IntKind.i64.wrap (↑f.toNat:Int) > (249:Int))=false)∧((IntKind.i64.wrap (↑f.toNat:Int)==(249:Int))=false)∧(decide (IntKind.i64.wrap (↑f.toNat:Int) > (240:Int))=true)∧(decide ((↑(f::t).length:Int)<Int.ofNat (nat_lit 2))=true)∧(R (.int .u64 0) (⟨(.node .leaf (some (.cells (.node (.node .leaf (some (.bool true)) .leaf) (some (.str [])) .leaf) 2 86 0 0 1 0 false .leaf)) .leaf),1,GW⟩))):=by kernel_rfl
theorem zeC:Obl P 60 (fun v H=>R v H) 1 _K [.run 37,.know 19 false,.run 7,.know 24 false,.run 7,.know 27 true,.run 17,.know 37 false,.run 10,.op,.run 1,(.callv [0] (.int .u64 b)),.run 10,.know 48 false,.run 7,.know 53 true,.run 22,.op,.run 1,(.callv [0,1] (.str w)),.run 2,.know 77 true,.run 32,.done] ((ze P 60 [.ptr 0 0 0] ⟨.node .leaf (some (.cells (.node (.node .leaf (some (.bool false)) .leaf) (some (.str (f::t))) .leaf) 2 86 0 0 1 0 false .leaf)) .leaf,1,GW⟩))=((decide (IntKind.i64.wrap (↑f.toNat:Int) > (249:Int))=false)∧((IntKind.i64.wrap (↑f.toNat:Int)==(249:Int))=false)∧(decide (IntKind.i64.wrap (↑f.toNat:Int) > (240:Int))=true)∧(decide ((↑(f::t).length:Int)<Int.ofNat 2)=false)∧(((0:Int)≤Int.ofNat 2∧Int.ofNat 2≤(↑(f::t).length:Int))∧(0:Int)≤(1:Int)∧(1:Int)≤(↑(2):Int))∧(Goal P 0 80 (fun x x_1=>x=AV.int .u64 b) (zb P 80 [.str (List.take 1 (List.drop 1 (f::t)))] GW))∧(decide (IntKind.i64.wrap (↑f.toNat:Int)≤(240:Int))=false)∧(decide (IntKind.i64.wrap (↑f.toNat:Int)<(249:Int))=true)∧((0:Int)≤Int.ofNat 2∧Int.ofNat 2≤(↑(f::t).length:Int))∧(Goal P 0 51 (fun x x_1=>x=AV.str w) (zb P 51 [.str [],.int .u64 (IntKind.u64.wrap (IntKind.u64.wrap (b+(240:Int))+IntKind.u64.wrap ((256:Int)*IntKind.u64.wrap (IntKind.i64.wrap (IntKind.i64.wrap (↑f.toNat:Int) - (241:Int))))))] GW))∧((y6 P (ev (T.set (some (AV.str w)) ((((((T.leaf.node (some (AV.ptr 0 0 0)) T.leaf).node (some (AV.ptr 0 0 0)) (T.leaf.node (some (AV.int .u64 b)) T.leaf)).node (some (AV.ptr 0 0 0)) (((T.leaf.node (some (AV.ptr 0 0 0)) T.leaf).node none T.leaf).node none (T.leaf.node (some (AV.bool (decide (IntKind.i64.wrap (↑f.toNat:Int)<(249:Int))))) T.leaf))).node (some (AV.int .i64 (IntKind.i64.wrap (↑f.toNat:Int)))) (((T.leaf.node (some (AV.int .i64 (Int.ofNat 1))) T.leaf).node (some (AV.bool false)) T.leaf).node none (((T.leaf.node (some (AV.int .i64 (Int.ofNat 2))) T.leaf).node (some (AV.str (f::t))) T.leaf).node (some (AV.bool true)) (T.leaf.node (some (AV.int .i64 (IntKind.i64.wrap (IntKind.i64.wrap (↑f.toNat:Int) - (241:Int))))) T.leaf)))).node none ((((T.leaf.node (some (AV.str (f::t))) T.leaf).node (some (AV.int .u8 (↑f.toNat:Int))) (T.leaf.node (some (AV.int .i64 (IntKind.i64.wrap (↑f.toNat:Int)))) T.leaf)).node (some (AV.str (f::t))) (((T.leaf.node (some (AV.str (f::t))) T.leaf).node (some (AV.ptr 0 0 0)) T.leaf).node (some (AV.int .i64 (IntKind.i64.wrap (↑f.toNat:Int)))) (T.leaf.node (some (AV.int .u64 (IntKind.u64.wrap (b+(240:Int))))) T.leaf))).node (some (AV.int .u64 (IntKind.u64.wrap (IntKind.u64.wrap (b+(240:Int))+IntKind.u64.wrap ((256:Int)*IntKind.u64.wrap (IntKind.i64.wrap (IntKind.i64.wrap (↑f.toNat:Int) - (241:Int)))))))) (((T.leaf.node (some (AV.bool false)) T.leaf).node (some (AV.bool (decide (IntKind.i64.wrap (↑f.toNat:Int) > (249:Int))))) (T.leaf.node (some (AV.bool true)) T.leaf)).node (some (AV.ptr 0 0 0)) ((T.leaf.node (some (AV.int .i64 (Int.ofNat 2))) T.leaf).node (some (AV.bool (decide (IntKind.i64.wrap (↑f.toNat:Int) > (240:Int))))) (T.leaf.node (some (AV.int .u64 (IntKind.u64.wrap ((256:Int)*IntKind.u64.wrap (IntKind.i64.wrap (IntKind.i64.wrap (↑f.toNat:Int) - (241:Int))))))) T.leaf))))).node (some (AV.ptr 0 0 0)) (((((T.leaf.node (some (AV.ptr 0 0 0)) T.leaf).node (some (AV.str (f::t))) (T.leaf.node (some (AV.bool false)) T.leaf)).node (some (AV.ptr 0 0 0)) (((T.leaf.node (some (AV.ptr 0 0 0)) T.leaf).node (some (AV.ptr 0 0 0)) T.leaf).node (some (AV.bool false)) (T.leaf.node (some (AV.int .u64 b)) T.leaf))).node (some (AV.int .i64 (Int.ofNat 1))) ((((T.leaf.node (some (AV.int .u64 (IntKind.u64.wrap (IntKind.u64.wrap (b+(240:Int))+IntKind.u64.wrap ((256:Int)*IntKind.u64.wrap (IntKind.i64.wrap (IntKind.i64.wrap (↑f.toNat:Int) - (241:Int)))))))) T.leaf).node (some (AV.int .i64 (Int.ofNat 2))) T.leaf).node (some (AV.int .i64 (IntKind.i64.wrap (↑f.toNat:Int)))) T.leaf).node none (((T.leaf.node (some (AV.str (List.take 2 (List.drop 0 (f::t))))) T.leaf).node (some (AV.int .i64 (Int.ofNat 1))) T.leaf).node (some (AV.int .i64 (IntKind.i64.wrap (↑f.toNat:Int)))) (T.leaf.node (some (AV.int .u64 (IntKind.u64.wrap (IntKind.i64.wrap (IntKind.i64.wrap (↑f.toNat:Int) - (241:Int)))))) T.leaf)))).node (some (AV.int .u64 (Int.ofNat 0))) ((((T.leaf.node (some (AV.int .i64 (↑(f::t).length:Int))) T.leaf).node (some (AV.int .i64 (IntKind.i64.wrap (↑f.toNat:Int)))) (T.leaf.node (some (AV.bool (decide (IntKind.i64.wrap (↑f.toNat:Int)≤(240:Int))))) T.leaf)).node (some (AV.bool false)) (((T.leaf.node (some (AV.int .i64 (Int.ofNat 1))) T.leaf).node (some (AV.ptr 0 0 0)) T.leaf).node (some (AV.bool (IntKind.i64.wrap (↑f.toNat:Int)==(249:Int)))) (T.leaf.node (some (AV.int .i64 (IntKind.i64.wrap (↑f.toNat:Int)))) T.leaf))).node (some (AV.ptr 0 0 0)) ((((T.leaf.node (some (AV.ptr 0 0 0)) T.leaf).node none T.leaf).node none (T.leaf.node (some (AV.int .i64 (IntKind.i64.wrap (↑f.toNat:Int)))) T.leaf)).node (some (AV.ptr 0 0 0)) ((T.leaf.node (some (AV.str (List.take 1 (List.drop 1 (f::t))))) T.leaf).node (some (AV.ptr 0 0 0)) (T.leaf.node (some (AV.int .u64 (IntKind.u64.wrap (IntKind.u64.wrap (b+(240:Int))+IntKind.u64.wrap ((256:Int)*IntKind.u64.wrap (IntKind.i64.wrap (IntKind.i64.wrap (↑f.toNat:Int) - (241:Int)))))))) T.leaf)))))) 69)) { objs:=T.leaf.node (some (AObj.cells ((T.leaf.node (some (AV.bool false)) T.leaf).node (some (AV.str (f::t))) T.leaf) 2 86 0 0 1 0 false T.leaf)) T.leaf,next:=1,glob:=GW } (Op.slice 9 (Operand.tmp 73) none (some (Operand.tmp 75)) none))=some (AV.str (List.take 2 (List.drop 0 (f::t)))))∧(some (AV.int .i64 (Int.ofNat 2))=some (AV.int .i64 (Int.ofNat 2)))∧(some (AV.str (f::t))=some (AV.str (f::t)))∧((!w==List.take 2 (List.drop 0 (f::t)))=true)∧(R (.int .u64 0) (⟨(.node .leaf (some (.cells (.node (.node .leaf (some (.bool true)) .leaf) (some (.str [])) .leaf) 2 86 0 0 1 0 false .leaf)) .leaf),1,GW⟩))):=by kernel_rfl
theorem zeT:Obl P 60 (fun v H=>R v H) 1 _K [.run 37,.know 19 false,.run 7,.know 24 false,.run 7,.know 27 true,.run 17,.know 37 false,.run 10,.op,.run 1,(.callv [0] (.int .u64 b)),.run 10,.know 48 false,.run 7,.know 53 true,.run 22,.op,.run 1,(.callv [0,1] (.str w)),.run 2,.know 77 false,.run 11,.op,.run 10,.done] ((ze P 60 [.ptr 0 0 0] ⟨.node .leaf (some (.cells (.node (.node .leaf (some (.bool false)) .leaf) (some (.str (f::t))) .leaf) 2 86 0 0 1 0 false .leaf)) .leaf,1,GW⟩))=((decide (IntKind.i64.wrap (↑f.toNat:Int) > (249:Int))=false)∧((IntKind.i64.wrap (↑f.toNat:Int)==(249:Int))=false)∧(decide (IntKind.i64.wrap (↑f.toNat:Int) > (240:Int))=true)∧(decide ((↑(f::t).length:Int)<Int.ofNat 2)=false)∧(((0:Int)≤Int.ofNat 2∧Int.ofNat 2≤(↑(f::t).length:Int))∧(0:Int)≤(1:Int)∧(1:Int)≤(↑(2):Int))∧(Goal P 0 80 (fun x x_1=>x=AV.int .u64 b) (zb P 80 [.str (List.take 1 (List.drop 1 (f::t)))] GW))∧(decide (IntKind.i64.wrap (↑f.toNat:Int)≤(240:Int))=false)∧(decide (IntKind.i64.wrap (↑f.toNat:Int)<(249:Int))=true)∧((0:Int)≤Int.ofNat 2∧Int.ofNat 2≤(↑(f::t).length:Int))∧(Goal P 0 51 (fun x x_1=>x=AV.str w) (zb P 51 [.str [],.int .u64 (IntKind.u64.wrap (IntKind.u64.wrap (b+(240:Int))+IntKind.u64.wrap ((256:Int)*IntKind.u64.wrap (IntKind.i64.wrap (IntKind.i64.wrap (↑f.toNat:Int) - (241:Int))))))] GW))∧((y6 P (ev (T.set (some (AV.str w)) ((((((T.leaf.node (some (AV.ptr 0 0 0)) T.leaf).node (some (AV.ptr 0 0 0)) (T.leaf.node (some (AV.int .u64 b)) T.leaf)).node (some (AV.ptr 0 0 0)) (((T.leaf.node (some (AV.ptr 0 0 0)) T.leaf).node none T.leaf).node none (T.leaf.node (some (AV.bool (decide (IntKind.i64.wrap (↑f.toNat:Int)<(249:Int))))) T.leaf))).node (some (AV.int .i64 (IntKind.i64.wrap (↑f.toNat:Int)))) (((T.leaf.node (some (AV.int .i64 (Int.ofNat 1))) T.leaf).node (some (AV.bool false)) T.leaf).node none (((T.leaf.node (some (AV.int .i64 (Int.ofNat 2))) T.leaf).node (some (AV.str (f::t))) T.leaf).node (some (AV.bool true)) (T.leaf.node (some (AV.int .i64 (IntKind.i64.wrap (IntKind.i64.wrap (↑f.toNat:Int) - (241:Int))))) T.leaf)))).node none ((((T.leaf.node (some (AV.str (f::t))) T.leaf).node (some (AV.int .u8 (↑f.toNat:Int))) (T.leaf.node (some (AV.int .i64 (IntKind.i64.wrap (↑f.toNat:Int)))) T.leaf)).node (some (AV.str (f::t))) (((T.leaf.node (some (AV.str (f::t))) T.leaf).node (some (AV.ptr 0 0 0)) T.leaf).node (some (AV.int .i64 (IntKind.i64.wrap (↑f.toNat:Int)))) (T.leaf.node (some (AV.int .u64 (IntKind.u64.wrap (b+(240:Int))))) T.leaf))).node (some (AV.int .u64 (IntKind.u64.wrap (IntKind.u64.wrap (b+(240:Int))+IntKind.u64.wrap ((256:Int)*IntKind.u64.wrap (IntKind.i64.wrap (IntKind.i64.wrap (↑f.toNat:Int) - (241:Int)))))))) (((T.leaf.node (some (AV.bool false)) T.leaf).node (some (AV.bool (decide (IntKind.i64.wrap (↑f.toNat:Int) > (249:Int))))) (T.leaf.node (some (AV.bool true)) T.leaf)).node (some (AV.ptr 0 0 0)) ((T.leaf.node (some (AV.int .i64 (Int.ofNat 2))) T.leaf).node (some (AV.bool (decide (IntKind.i64.wrap (↑f.toNat:Int) > (240:Int))))) (T.leaf.node (some (AV.int .u64 (IntKind.u64.wrap ((256:Int)*IntKind.u64.wrap (IntKind.i64.wrap (IntKind.i64.wrap (↑f.toNat:Int) - (241:Int))))))) T.leaf))))).node (some (AV.ptr 0 0 0)) (((((T.leaf.node (some (AV.ptr 0 0 0)) T.leaf).node (some (AV.str (f::t))) (T.leaf.node (some (AV.bool false)) T.leaf)).node (some (AV.ptr 0 0 0)) (((T.leaf.node (some (AV.ptr 0 0 0)) T.leaf).node (some (AV.ptr 0 0 0)) T.leaf).node (some (AV.bool false)) (T.leaf.node (some (AV.int .u64 b)) T.leaf))).node (some (AV.int .i64 (Int.ofNat 1))) ((((T.leaf.node (some (AV.int .u64 (IntKind.u64.wrap (IntKind.u64.wrap (b+(240:Int))+IntKind.u64.wrap ((256:Int)*IntKind.u64.wrap (IntKind.i64.wrap (IntKind.i64.wrap (↑f.toNat:Int) - (241:Int)))))))) T.leaf).node (some (AV.int .i64 (Int.ofNat 2))) T.leaf).node (some (AV.int .i64 (IntKind.i64.wrap (↑f.toNat:Int)))) T.leaf).node none (((T.leaf.node (some (AV.str (List.take 2 (List.drop 0 (f::t))))) T.leaf).node (some (AV.int .i64 (Int.ofNat 1))) T.leaf).node (some (AV.int .i64 (IntKind.i64.wrap (↑f.toNat:Int)))) (T.leaf.node (some (AV.int .u64 (IntKind.u64.wrap (IntKind.i64.wrap (IntKind.i64.wrap (↑f.toNat:Int) - (241:Int)))))) T.leaf)))).node (some (AV.int .u64 (Int.ofNat 0))) ((((T.leaf.node (some (AV.int .i64 (↑(f::t).length:Int))) T.leaf).node (some (AV.int .i64 (IntKind.i64.wrap (↑f.toNat:Int)))) (T.leaf.node (some (AV.bool (decide (IntKind.i64.wrap (↑f.toNat:Int)≤(240:Int))))) T.leaf)).node (some (AV.bool false)) (((T.leaf.node (some (AV.int .i64 (Int.ofNat 1))) T.leaf).node (some (AV.ptr 0 0 0)) T.leaf).node (some (AV.bool (IntKind.i64.wrap (↑f.toNat:Int)==(249:Int)))) (T.leaf.node (some (AV.int .i64 (IntKind.i64.wrap (↑f.toNat:Int)))) T.leaf))).node (some (AV.ptr 0 0 0)) ((((T.leaf.node (some (AV.ptr 0 0 0)) T.leaf).node none T.leaf).node none (T.leaf.node (some (AV.int .i64 (IntKind.i64.wrap (↑f.toNat:Int)))) T.leaf)).node (some (AV.ptr 0 0 0)) ((T.leaf.node (some (AV.str (List.take 1 (List.drop 1 (f::t))))) T.leaf).node (some (AV.ptr 0 0 0)) (T.leaf.node (some (AV.int .u64 (IntKind.u64.wrap (IntKind.u64.wrap (b+(240:Int))+IntKind.u64.wrap ((256:Int)*IntKind.u64.wrap (IntKind.i64.wrap (IntKind.i64.wrap (↑f.toNat:Int) - (241:Int)))))))) T.leaf)))))) 69)) { objs:=T.leaf.node (some (AObj.cells ((T.leaf.node (some (AV.bool false)) T.leaf).node (some (AV.str (f::t))) T.leaf) 2 86 0 0 1 0 false T.leaf)) T.leaf,next:=1,glob:=GW } (Op.slice 9 (Operand.tmp 73) none (some (Operand.tmp 75)) none))=some (AV.str (List.take 2 (List.drop 0 (f::t)))))∧(some (AV.int .i64 (Int.ofNat 2))=some (AV.int .i64 (Int.ofNat 2)))∧(some (AV.str (f::t))=some (AV.str (f::t)))∧((!w==List.take 2 (List.drop 0 (f::t)))=false)∧((0:Int)≤Int.ofNat 2∧Int.ofNat 2≤(↑(f::t).length:Int))∧(R (.int .u64 (IntKind.u64.wrap (IntKind.u64.wrap (b+(240:Int))+IntKind.u64.wrap ((256:Int)*IntKind.u64.wrap (IntKind.i64.wrap (IntKind.i64.wrap (↑f.toNat:Int) - (241:Int))))))) (⟨(.node .leaf (some (.cells (.node (.node .leaf (some (.bool false)) .leaf) (some (.str (List.take ((f::t).length - 2) (List.drop 2 (f::t))))) .leaf) 2 86 0 0 1 0 false .leaf)) .leaf),1,GW⟩))):=by kernel_rfl
theorem zii:Obl P 60 (fun v H=>R v H) 1 _K [.run 37,.know 19 false,.run 7,.know 24 false,.run 7,.know 27 false,.run 25,.op,.run 1,(.callv [0] (.int .u64 b)),.run 10,.know 48 true,.run 17,.op,.run 1,(.callv [0,1] (.str w)),.run 2,.know 77 true,.run 32,.done] ((ze P 60 [.ptr 0 0 0] ⟨.node .leaf (some (.cells (.node (.node .leaf (some (.bool false)) .leaf) (some (.str (f::t))) .leaf) 2 86 0 0 1 0 false .leaf)) .leaf,1,GW⟩))=((decide (IntKind.i64.wrap (↑f.toNat:Int) > (249:Int))=false)∧((IntKind.i64.wrap (↑f.toNat:Int)==(249:Int))=false)∧(decide (IntKind.i64.wrap (↑f.toNat:Int) > (240:Int))=false)∧(((0:Int)≤Int.ofNat 1∧Int.ofNat 1≤(↑(f::t).length:Int))∧(0:Int)≤(1:Int)∧(1:Int)≤(↑(1):Int))∧(Goal P 0 80 (fun x x_1=>x=AV.int .u64 b) (zb P 80 [.str (List.take 0 (List.drop 1 (f::t)))] GW))∧(decide (IntKind.i64.wrap (↑f.toNat:Int)≤(240:Int))=true)∧((0:Int)≤Int.ofNat 1∧Int.ofNat 1≤(↑(f::t).length:Int))∧(Goal P 0 51 (fun x x_1=>x=AV.str w) (zb P 51 [.str [],.int .u64 (IntKind.u64.wrap (IntKind.i64.wrap (↑f.toNat:Int)))] GW))∧((y6 P (ev (T.set (some (AV.str w)) ((((((T.leaf.node (some (AV.ptr 0 0 0)) T.leaf).node (some (AV.ptr 0 0 0)) (T.leaf.node (some (AV.int .u64 b)) T.leaf)).node (some (AV.ptr 0 0 0)) (((T.leaf.node (some (AV.ptr 0 0 0)) T.leaf).node none T.leaf).node none T.leaf)).node (some (AV.int .i64 (IntKind.i64.wrap (↑f.toNat:Int)))) (((T.leaf.node (some (AV.int .i64 (Int.ofNat 0))) T.leaf).node (some (AV.bool false)) (T.leaf.node (some (AV.int .i64 (IntKind.i64.wrap (↑f.toNat:Int)))) T.leaf)).node none (((T.leaf.node (some (AV.int .i64 (Int.ofNat 1))) T.leaf).node (some (AV.str (f::t))) T.leaf).node (some (AV.bool false)) T.leaf))).node none ((((T.leaf.node (some (AV.str (f::t))) T.leaf).node (some (AV.int .u8 (↑f.toNat:Int))) (T.leaf.node (some (AV.int .i64 (IntKind.i64.wrap (↑f.toNat:Int)))) T.leaf)).node (some (AV.str (f::t))) (((T.leaf.node (some (AV.str (f::t))) T.leaf).node (some (AV.ptr 0 0 0)) T.leaf).node (some (AV.int .i64 (IntKind.i64.wrap (↑f.toNat:Int)))) T.leaf)).node (some (AV.int .u64 (IntKind.u64.wrap (IntKind.i64.wrap (↑f.toNat:Int))))) (((T.leaf.node (some (AV.bool false)) T.leaf).node (some (AV.bool (decide (IntKind.i64.wrap (↑f.toNat:Int) > (249:Int))))) T.leaf).node (some (AV.ptr 0 0 0)) ((T.leaf.node (some (AV.int .i64 (Int.ofNat 1))) T.leaf).node (some (AV.bool (decide (IntKind.i64.wrap (↑f.toNat:Int) > (240:Int))))) T.leaf)))).node (some (AV.ptr 0 0 0)) (((((T.leaf.node (some (AV.ptr 0 0 0)) T.leaf).node (some (AV.str (f::t))) (T.leaf.node (some (AV.bool true)) T.leaf)).node (some (AV.ptr 0 0 0)) (((T.leaf.node (some (AV.ptr 0 0 0)) T.leaf).node (some (AV.ptr 0 0 0)) T.leaf).node (some (AV.bool false)) T.leaf)).node (some (AV.int .i64 (Int.ofNat 0))) ((((T.leaf.node (some (AV.int .u64 (IntKind.u64.wrap (IntKind.i64.wrap (↑f.toNat:Int))))) T.leaf).node (some (AV.int .i64 (Int.ofNat 1))) T.leaf).node (some (AV.int .i64 (IntKind.i64.wrap (↑f.toNat:Int)))) (T.leaf.node (some (AV.int .u64 (IntKind.u64.wrap (IntKind.i64.wrap (↑f.toNat:Int))))) T.leaf)).node none (((T.leaf.node (some (AV.str (List.take 1 (List.drop 0 (f::t))))) T.leaf).node (some (AV.int .i64 (Int.ofNat 0))) T.leaf).node (some (AV.int .i64 (IntKind.i64.wrap (↑f.toNat:Int)))) T.leaf))).node (some (AV.int .u64 (Int.ofNat 0))) ((((T.leaf.node (some (AV.int .i64 (↑(f::t).length:Int))) T.leaf).node (some (AV.int .i64 (IntKind.i64.wrap (↑f.toNat:Int)))) (T.leaf.node (some (AV.bool (decide (IntKind.i64.wrap (↑f.toNat:Int)≤(240:Int))))) T.leaf)).node (some (AV.bool false)) (((T.leaf.node (some (AV.int .i64 (Int.ofNat 0))) T.leaf).node (some (AV.ptr 0 0 0)) T.leaf).node (some (AV.bool (IntKind.i64.wrap (↑f.toNat:Int)==(249:Int)))) T.leaf)).node (some (AV.ptr 0 0 0)) ((((T.leaf.node (some (AV.ptr 0 0 0)) T.leaf).node none T.leaf).node none T.leaf).node (some (AV.ptr 0 0 0)) ((T.leaf.node (some (AV.str (List.take 0 (List.drop 1 (f::t))))) T.leaf).node (some (AV.ptr 0 0 0)) T.leaf))))) 69)) { objs:=T.leaf.node (some (AObj.cells ((T.leaf.node (some (AV.bool false)) T.leaf).node (some (AV.str (f::t))) T.leaf) 2 86 0 0 1 0 false T.leaf)) T.leaf,next:=1,glob:=GW } (Op.slice 9 (Operand.tmp 73) none (some (Operand.tmp 75)) none))=some (AV.str (List.take 1 (List.drop 0 (f::t)))))∧(some (AV.int .i64 (Int.ofNat 1))=some (AV.int .i64 (Int.ofNat 1)))∧(some (AV.str (f::t))=some (AV.str (f::t)))∧((!w==List.take 1 (List.drop 0 (f::t)))=true)∧(R (.int .u64 0) (⟨(.node .leaf (some (.cells (.node (.node .leaf (some (.bool true)) .leaf) (some (.str [])) .leaf) 2 86 0 0 1 0 false .leaf)) .leaf),1,GW⟩))):=by kernel_rfl
theorem zic:Obl P 60 (fun v H=>R v H) 1 _K [.run 37,.know 19 false,.run 7,.know 24 false,.run 7,.know 27 false,.run 25,.op,.run 1,(.callv [0] (.int .u64 b)),.run 10,.know 48 true,.run 17,.op,.run 1,(.callv [0,1] (.str w)),.run 2,.know 77 false,.run 11,.op,.run 10,.done] ((ze P 60 [.ptr 0 0 0] ⟨.node .leaf (some (.cells (.node (.node .leaf (some (.bool false)) .leaf) (some (.str (f::t))) .leaf) 2 86 0 0 1 0 false .leaf)) .leaf,1,GW⟩))=((decide (IntKind.i64.wrap (↑f.toNat:Int) > (249:Int))=false)∧((IntKind.i64.wrap (↑f.toNat:Int)==(249:Int))=false)∧(decide (IntKind.i64.wrap (↑f.toNat:Int) > (240:Int))=false)∧(((0:Int)≤Int.ofNat 1∧Int.ofNat 1≤(↑(f::t).length:Int))∧(0:Int)≤(1:Int)∧(1:Int)≤(↑(1):Int))∧(Goal P 0 80 (fun x x_1=>x=AV.int .u64 b) (zb P 80 [.str (List.take 0 (List.drop 1 (f::t)))] GW))∧(decide (IntKind.i64.wrap (↑f.toNat:Int)≤(240:Int))=true)∧((0:Int)≤Int.ofNat 1∧Int.ofNat 1≤(↑(f::t).length:Int))∧(Goal P 0 51 (fun x x_1=>x=AV.str w) (zb P 51 [.str [],.int .u64 (IntKind.u64.wrap (IntKind.i64.wrap (↑f.toNat:Int)))] GW))∧((y6 P (ev (T.set (some (AV.str w)) ((((((T.leaf.node (some (AV.ptr 0 0 0)) T.leaf).node (some (AV.ptr 0 0 0)) (T.leaf.node (some (AV.int .u64 b)) T.leaf)).node (some (AV.ptr 0 0 0)) (((T.leaf.node (some (AV.ptr 0 0 0)) T.leaf).node none T.leaf).node none T.leaf)).node (some (AV.int .i64 (IntKind.i64.wrap (↑f.toNat:Int)))) (((T.leaf.node (some (AV.int .i64 (Int.ofNat 0))) T.leaf).node (some (AV.bool false)) (T.leaf.node (some (AV.int .i64 (IntKind.i64.wrap (↑f.toNat:Int)))) T.leaf)).node none (((T.leaf.node (some (AV.int .i64 (Int.ofNat 1))) T.leaf).node (some (AV.str (f::t))) T.leaf).node (some (AV.bool false)) T.leaf))).node none ((((T.leaf.node (some (AV.str (f::t))) T.leaf).node (some (AV.int .u8 (↑f.toNat:Int))) (T.leaf.node (some (AV.int .i64 (IntKind.i64.wrap (↑f.toNat:Int)))) T.leaf)).node (some (AV.str (f::t))) (((T.leaf.node (some (AV.str (f::t))) T.leaf).node (some (AV.ptr 0 0 0)) T.leaf).node (some (AV.int .i64 (IntKind.i64.wrap (↑f.toNat:Int)))) T.leaf)).node (some (AV.int .u64 (IntKind.u64.wrap (IntKind.i64.wrap (↑f.toNat:Int))))) (((T.leaf.node (some (AV.bool false)) T.leaf).node (some (AV.bool (decide (IntKind.i64.wrap (↑f.toNat:Int) > (249:Int))))) T.leaf).node (some (AV.ptr 0 0 0)) ((T.leaf.node (some (AV.int .i64 (Int.ofNat 1))) T.leaf).node (some (AV.bool (decide (IntKind.i64.wrap (↑f.toNat:Int) > (240:Int))))) T.leaf)))).node (some (AV.ptr 0 0 0)) (((((T.leaf.node (some (AV.ptr 0 0 0)) T.leaf).node (some (AV.str (f::t))) (T.leaf.node (some (AV.bool true)) T.leaf)).node (some (AV.ptr 0 0 0)) (((T.leaf.node (some (AV.ptr 0 0 0)) T.leaf).node (some (AV.ptr 0 0 0)) T.leaf).node (some (AV.bool false)) T.leaf)).node (some (AV.int .i64 (Int.ofNat 0))) ((((T.leaf.node (some (AV.int .u64 (IntKind.u64.wrap (IntKind.i64.wrap (↑f.toNat:Int))))) T.leaf).node (some (AV.int .i64 (Int.ofNat 1))) T.leaf).node (some (AV.int .i64 (IntKind.i64.wrap (↑f.toNat:Int)))) (T.leaf.node (some (AV.int .u64 (IntKind.u64.wrap (IntKind.i64.wrap (↑f.toNat:Int))))) T.leaf)).node none (((T.leaf.node (some (AV.str (List.take 1 (List.drop 0 (f::t))))) T.leaf).node (some (AV.int .i64 (Int.ofNat 0))) T.leaf).node (some (AV.int .i64 (IntKind.i64.wrap (↑f.toNat:Int)))) T.leaf))).node (some (AV.int .u64 (Int.ofNat 0))) ((((T.leaf.node (some (AV.int .i64 (↑(f::t).length:Int))) T.leaf).node (some (AV.int .i64 (IntKind.i64.wrap (↑f.toNat:Int)))) (T.leaf.node (some (AV.bool (decide (IntKind.i64.wrap (↑f.toNat:Int)≤(240:Int))))) T.leaf)).node (some (AV.bool false)) (((T.leaf.node (some (AV.int .i64 (Int.ofNat 0))) T.leaf).node (some (AV.ptr 0 0 0)) T.leaf).node (some (AV.bool (IntKind.i64.wrap (↑f.toNat:Int)==(249:Int)))) T.leaf)).node (some (AV.ptr 0 0 0)) ((((T.leaf.node (some (AV.ptr 0 0 0)) T.leaf).node none T.leaf).node none T.leaf).node (some (AV.ptr 0 0 0)) ((T.leaf.node (some (AV.str (List.take 0 (List.drop 1 (f::t))))) T.leaf).node (some (AV.ptr 0 0 0)) T.leaf))))) 69)) { objs:=T.leaf.node (some (AObj.cells ((T.leaf.node (some (AV.bool false)) T.leaf).node (some (AV.str (f::t))) T.leaf) 2 86 0 0 1 0 false T.leaf)) T.leaf,next:=1,glob:=GW } (Op.slice 9 (Operand.tmp 73) none (some (Operand.tmp 75)) none))=some (AV.str (List.take 1 (List.drop 0 (f::t)))))∧(some (AV.int .i64 (Int.ofNat 1))=some (AV.int .i64 (Int.ofNat 1)))∧(some (AV.str (f::t))=some (AV.str (f::t)))∧((!w==List.take 1 (List.drop 0 (f::t)))=false)∧((0:Int)≤Int.ofNat 1∧Int.ofNat 1≤(↑(f::t).length:Int))∧(R (.int .u64 (IntKind.u64.wrap (IntKind.i64.wrap (↑f.toNat:Int)))) (⟨(.node .leaf (some (.cells (.node (.node .leaf (some (.bool false)) .leaf) (some (.str (List.take ((f::t).length - 1) (List.drop 1 (f::t))))) .leaf) 2 86 0 0 1 0 false .leaf)) .leaf),1,GW⟩))):=by kernel_rfl
end
theorem low0 (R:AV→Prop)(_K:AM→Prop):Obl P 80 (fun v _=>R v) 0 _K [.run 31,.done] ((zb P 80 [.str []] GW))=((R (.int .u64 0))):=by kernel_rfl
theorem low1 (a1:UInt8)(R:AV→Prop)(_K:AM→Prop):Obl P 80 (fun v _=>R v) 0 _K [.run 60,.done] ((zb P 80 [.str [a1]] GW))=((R (.int .u64 (IntKind.u64.wrap (Int.ofNat (nat_lit 0)+IntKind.u64.wrap (↑a1.toNat:Int)))))):=by kernel_rfl
theorem low2 (a1 a2:UInt8)(R:AV→Prop)(_K:AM→Prop):Obl P 80 (fun v _=>R v) 0 _K [.run 89,.done] ((zb P 80 [.str [a1,a2]] GW))=((R (.int .u64 (IntKind.u64.wrap (IntKind.u64.wrap ((256:Int)*IntKind.u64.wrap (Int.ofNat (nat_lit 0)+IntKind.u64.wrap (↑a1.toNat:Int)))+IntKind.u64.wrap (↑a2.toNat:Int)))))):=by kernel_rfl
theorem low3 (a1 a2 a3:UInt8)(R:AV→Prop)(_K:AM→Prop):Obl P 80 (fun v _=>R v) 0 _K [.run 118,.done] ((zb P 80 [.str [a1,a2,a3]] GW))=((R (.int .u64 (IntKind.u64.wrap (IntKind.u64.wrap ((256:Int)*IntKind.u64.wrap (IntKind.u64.wrap ((256:Int)*IntKind.u64.wrap (Int.ofNat (nat_lit 0)+IntKind.u64.wrap (↑a1.toNat:Int)))+IntKind.u64.wrap (↑a2.toNat:Int)))+IntKind.u64.wrap (↑a3.toNat:Int)))))):=by kernel_rfl
theorem low4 (a1 a2 a3 a4:UInt8)(R:AV→Prop)(_K:AM→Prop):Obl P 80 (fun v _=>R v) 0 _K [.run 147,.done] ((zb P 80 [.str [a1,a2,a3,a4]] GW))=((R (.int .u64 (IntKind.u64.wrap (IntKind.u64.wrap ((256:Int)*IntKind.u64.wrap (IntKind.u64.wrap ((256:Int)*IntKind.u64.wrap (IntKind.u64.wrap ((256:Int)*IntKind.u64.wrap (Int.ofNat (nat_lit 0)+IntKind.u64.wrap (↑a1.toNat:Int)))+IntKind.u64.wrap (↑a2.toNat:Int)))+IntKind.u64.wrap (↑a3.toNat:Int)))+IntKind.u64.wrap (↑a4.toNat:Int)))))):=by kernel_rfl
theorem low5 (a1 a2 a3 a4 a5:UInt8)(R:AV→Prop)(_K:AM→Prop):Obl P 80 (fun v _=>R v) 0 _K [.run 176,.done] ((zb P 80 [.str [a1,a2,a3,a4,a5]] GW))=((R (.int .u64 (IntKind.u64.wrap (IntKind.u64.wrap ((256:Int)*IntKind.u64.wrap (IntKind.u64.wrap ((256:Int)*IntKind.u64.wrap (IntKind.u64.wrap ((256:Int)*IntKind.u64.wrap (IntKind.u64.wrap ((256:Int)*IntKind.u64.wrap (Int.ofNat (nat_lit 0)+IntKind.u64.wrap (↑a1.toNat:Int)))+IntKind.u64.wrap (↑a2.toNat:Int)))+IntKind.u64.wrap (↑a3.toNat:Int)))+IntKind.u64.wrap (↑a4.toNat:Int)))+IntKind.u64.wrap (↑a5.toNat:Int)))))):=by kernel_rfl
theorem low6 (a1 a2 a3 a4 a5 a6:UInt8)(R:AV→Prop)(_K:AM→Prop):Obl P 80 (fun v _=>R v) 0 _K [.run 205,.done] ((zb P 80 [.str [a1,a2,a3,a4,a5,a6]] GW))=((R (.int .u64 (IntKind.u64.wrap (IntKind.u64.wrap ((256:Int)*IntKind.u64.wrap (IntKind.u64.wrap ((256:Int)*IntKind.u64.wrap (IntKind.u64.wrap ((256:Int)*IntKind.u64.wrap (IntKind.u64.wrap ((256:Int)*IntKind.u64.wrap (IntKind.u64.wrap ((256:Int)*IntKind.u64.wrap (Int.ofNat (nat_lit 0)+IntKind.u64.wrap (↑a1.toNat:Int)))+IntKind.u64.wrap (↑a2.toNat:Int)))+IntKind.u64.wrap (↑a3.toNat:Int)))+IntKind.u64.wrap (↑a4.toNat:Int)))+IntKind.u64.wrap (↑a5.toNat:Int)))+IntKind.u64.wrap (↑a6.toNat:Int)))))):=by kernel_rfl
theorem low7 (a1 a2 a3 a4 a5 a6 a7:UInt8)(R:AV→Prop)(_K:AM→Prop):Obl P 80 (fun v _=>R v) 0 _K [.run 234,.done] ((zb P 80 [.str [a1,a2,a3,a4,a5,a6,a7]] GW))=((R (.int .u64 (IntKind.u64.wrap (IntKind.u64.wrap ((256:Int)*IntKind.u64.wrap (IntKind.u64.wrap ((256:Int)*IntKind.u64.wrap (IntKind.u64.wrap ((256:Int)*IntKind.u64.wrap (IntKind.u64.wrap ((256:Int)*IntKind.u64.wrap (IntKind.u64.wrap ((256:Int)*IntKind.u64.wrap (IntKind.u64.wrap ((256:Int)*IntKind.u64.wrap (Int.ofNat (nat_lit 0)+IntKind.u64.wrap (↑a1.toNat:Int)))+IntKind.u64.wrap (↑a2.toNat:Int)))+IntKind.u64.wrap (↑a3.toNat:Int)))+IntKind.u64.wrap (↑a4.toNat:Int)))+IntKind.u64.wrap (↑a5.toNat:Int)))+IntKind.u64.wrap (↑a6.toNat:Int)))+IntKind.u64.wrap (↑a7.toNat:Int)))))):=by kernel_rfl
theorem low8 (a1 a2 a3 a4 a5 a6 a7 a8:UInt8)(R:AV→Prop)(_K:AM→Prop):Obl P 80 (fun v _=>R v) 0 _K [.run 263,.done] ((zb P 80 [.str [a1,a2,a3,a4,a5,a6,a7,a8]] GW))=((R (.int .u64 (IntKind.u64.wrap (IntKind.u64.wrap ((256:Int)*IntKind.u64.wrap (IntKind.u64.wrap ((256:Int)*IntKind.u64.wrap (IntKind.u64.wrap ((256:Int)*IntKind.u64.wrap (IntKind.u64.wrap ((256:Int)*IntKind.u64.wrap (IntKind.u64.wrap ((256:Int)*IntKind.u64.wrap (IntKind.u64.wrap ((256:Int)*IntKind.u64.wrap (IntKind.u64.wrap ((256:Int)*IntKind.u64.wrap (Int.ofNat (nat_lit 0)+IntKind.u64.wrap (↑a1.toNat:Int)))+IntKind.u64.wrap (↑a2.toNat:Int)))+IntKind.u64.wrap (↑a3.toNat:Int)))+IntKind.u64.wrap (↑a4.toNat:Int)))+IntKind.u64.wrap (↑a5.toNat:Int)))+IntKind.u64.wrap (↑a6.toNat:Int)))+IntKind.u64.wrap (↑a7.toNat:Int)))+IntKind.u64.wrap (↑a8.toNat:Int)))))):=by kernel_rfl
theorem zpQ (left left2:List UInt8)(bad bad2:Bool)(n:Int)(R:AV→AHeap→Prop)(_K:AM→Prop):Obl P 62 (fun v H=>R v H) 1 _K [.run 8,(.callh [(0,0,[])] [0] (.int .u64 n) (rh left2 bad2)),.run 14,.know 14 true,.run 35,.done] ((ze P 62 [.ptr 0 0 0] (rh left bad)))=((Goal P 1 60 (fun x k=>x=AV.int .u64 n∧k=rh left2 bad2) (ze P 60 [.ptr 0 0 0] (rh left bad)))∧(decide (n > IntKind.u64.wrap (↑left2.length:Int))=true)∧(R (.str []) (⟨(.node .leaf (some (.cells (.node (.node .leaf (some (.bool true)) .leaf) (some (.str [])) .leaf) 2 86 0 0 1 0 false .leaf)) .leaf),1,GW⟩))):=by kernel_rfl
theorem zkc (left left2:List UInt8)(bad bad2:Bool)(n:Int)(R:AV→AHeap→Prop)(_K:AM→Prop):Obl P 62 (fun v H=>R v H) 1 _K [.run 8,(.callh [(0,0,[])] [0] (.int .u64 n) (rh left2 bad2)),.run 14,.know 14 false,.run 9,.op,.run 10,.op,.run 10,.done] ((ze P 62 [.ptr 0 0 0] (rh left bad)))=((Goal P 1 60 (fun x k=>x=AV.int .u64 n∧k=rh left2 bad2) (ze P 60 [.ptr 0 0 0] (rh left bad)))∧(decide (n > IntKind.u64.wrap (↑left2.length:Int))=false)∧((0:Int)≤n∧n≤(↑left2.length:Int))∧((0:Int)≤n∧n≤(↑left2.length:Int))∧(R (.str (List.take (n.toNat - 0) (List.drop 0 left2))) (⟨(.node .leaf (some (.cells (.node (.node .leaf (some (.bool bad2)) .leaf) (some (.str (List.take (left2.length - n.toNat) (List.drop n.toNat left2)))) .leaf) 2 86 0 0 1 0 false .leaf)) .leaf),1,GW⟩))):=by kernel_rfl
theorem lw (v b:Int)(h0:0≤v)(h1:v<72057594037927936)(h2:0≤b)(h3:b<256):IntKind.u64.wrap (IntKind.u64.wrap (256*v)+IntKind.u64.wrap b)=v*256+b:=by
 rw [IntWalk.u64_in (256*v) (by omega),IntWalk.u64_in b (by omega),IntWalk.u64_in _ (by omega)]
 omega
theorem lw0 (b:Int)(h2:0≤b)(h3:b<256):IntKind.u64.wrap (Int.ofNat 0+IntKind.u64.wrap b)=0*256+b:=by
 rw [IntWalk.u64_in b (by omega)]
 show IntKind.u64.wrap (0+b)=_
 rw [IntWalk.u64_in _ (by omega)]
 omega
theorem js:∀ (l:List UInt8),l.length≤8→Goal P 0 80 (fun x _=>x=.int .u64 (be l)) (zb P 80 [.str l] GW)
 | [],_=>by
  refine (oh (low0 _ _).symm ?_)
  rfl
 | [a1],_=>by
  have ha1:=zl a1
  have L1:=lw0 a1.toNat (by omega) (by omega)
  refine (oh (low1 a1 _ _).symm ?_)
  simp only [L1]
  rfl
 | [a1,a2],_=>by
  have ha1:=zl a1
  have ha2:=zl a2
  have L1:=lw0 a1.toNat (by omega) (by omega)
  have L2:=lw (0*256+(a1.toNat:Int)) a2.toNat (by omega) (by omega) (by omega) (by omega)
  refine (oh (low2 a1 a2 _ _).symm ?_)
  simp only [L1,L2]
  rfl
 | [a1,a2,a3],_=>by
  have ha1:=zl a1
  have ha2:=zl a2
  have ha3:=zl a3
  have L1:=lw0 a1.toNat (by omega) (by omega)
  have L2:=lw (0*256+(a1.toNat:Int)) a2.toNat (by omega) (by omega) (by omega) (by omega)
  have L3:=lw ((0*256+(a1.toNat:Int))*256+(a2.toNat:Int)) a3.toNat (by omega) (by omega) (by omega) (by omega)
  refine (oh (low3 a1 a2 a3 _ _).symm ?_)
  simp only [L1,L2,L3]
  rfl
 | [a1,a2,a3,a4],_=>by
  have ha1:=zl a1
  have ha2:=zl a2
  have ha3:=zl a3
  have ha4:=zl a4
  have L1:=lw0 a1.toNat (by omega) (by omega)
  have L2:=lw (0*256+(a1.toNat:Int)) a2.toNat (by omega) (by omega) (by omega) (by omega)
  have L3:=lw ((0*256+(a1.toNat:Int))*256+(a2.toNat:Int)) a3.toNat (by omega) (by omega) (by omega) (by omega)
  have L4:=lw (((0*256+(a1.toNat:Int))*256+(a2.toNat:Int))*256+(a3.toNat:Int)) a4.toNat (by omega) (by omega) (by omega) (by omega)
  refine (oh (low4 a1 a2 a3 a4 _ _).symm ?_)
  simp only [L1,L2,L3,L4]
  rfl
 | [a1,a2,a3,a4,a5],_=>by
  have ha1:=zl a1
  have ha2:=zl a2
  have ha3:=zl a3
  have ha4:=zl a4
  have ha5:=zl a5
  have L1:=lw0 a1.toNat (by omega) (by omega)
  have L2:=lw (0*256+(a1.toNat:Int)) a2.toNat (by omega) (by omega) (by omega) (by omega)
  have L3:=lw ((0*256+(a1.toNat:Int))*256+(a2.toNat:Int)) a3.toNat (by omega) (by omega) (by omega) (by omega)
  have L4:=lw (((0*256+(a1.toNat:Int))*256+(a2.toNat:Int))*256+(a3.toNat:Int)) a4.toNat (by omega) (by omega) (by omega) (by omega)
  have L5:=lw ((((0*256+(a1.toNat:Int))*256+(a2.toNat:Int))*256+(a3.toNat:Int))*256+(a4.toNat:Int)) a5.toNat (by omega) (by omega) (by omega) (by omega)
  refine (oh (low5 a1 a2 a3 a4 a5 _ _).symm ?_)
  simp only [L1,L2,L3,L4,L5]
  rfl
 | [a1,a2,a3,a4,a5,a6],_=>by
  have ha1:=zl a1
  have ha2:=zl a2
  have ha3:=zl a3
  have ha4:=zl a4
  have ha5:=zl a5
  have ha6:=zl a6
  have L1:=lw0 a1.toNat (by omega) (by omega)
  have L2:=lw (0*256+(a1.toNat:Int)) a2.toNat (by omega) (by omega) (by omega) (by omega)
  have L3:=lw ((0*256+(a1.toNat:Int))*256+(a2.toNat:Int)) a3.toNat (by omega) (by omega) (by omega) (by omega)
  have L4:=lw (((0*256+(a1.toNat:Int))*256+(a2.toNat:Int))*256+(a3.toNat:Int)) a4.toNat (by omega) (by omega) (by omega) (by omega)
  have L5:=lw ((((0*256+(a1.toNat:Int))*256+(a2.toNat:Int))*256+(a3.toNat:Int))*256+(a4.toNat:Int)) a5.toNat (by omega) (by omega) (by omega) (by omega)
  have L6:=lw (((((0*256+(a1.toNat:Int))*256+(a2.toNat:Int))*256+(a3.toNat:Int))*256+(a4.toNat:Int))*256+(a5.toNat:Int)) a6.toNat (by omega) (by omega) (by omega) (by omega)
  refine (oh (low6 a1 a2 a3 a4 a5 a6 _ _).symm ?_)
  simp only [L1,L2,L3,L4,L5,L6]
  rfl
 | [a1,a2,a3,a4,a5,a6,a7],_=>by
  have ha1:=zl a1
  have ha2:=zl a2
  have ha3:=zl a3
  have ha4:=zl a4
  have ha5:=zl a5
  have ha6:=zl a6
  have ha7:=zl a7
  have L1:=lw0 a1.toNat (by omega) (by omega)
  have L2:=lw (0*256+(a1.toNat:Int)) a2.toNat (by omega) (by omega) (by omega) (by omega)
  have L3:=lw ((0*256+(a1.toNat:Int))*256+(a2.toNat:Int)) a3.toNat (by omega) (by omega) (by omega) (by omega)
  have L4:=lw (((0*256+(a1.toNat:Int))*256+(a2.toNat:Int))*256+(a3.toNat:Int)) a4.toNat (by omega) (by omega) (by omega) (by omega)
  have L5:=lw ((((0*256+(a1.toNat:Int))*256+(a2.toNat:Int))*256+(a3.toNat:Int))*256+(a4.toNat:Int)) a5.toNat (by omega) (by omega) (by omega) (by omega)
  have L6:=lw (((((0*256+(a1.toNat:Int))*256+(a2.toNat:Int))*256+(a3.toNat:Int))*256+(a4.toNat:Int))*256+(a5.toNat:Int)) a6.toNat (by omega) (by omega) (by omega) (by omega)
  have L7:=lw ((((((0*256+(a1.toNat:Int))*256+(a2.toNat:Int))*256+(a3.toNat:Int))*256+(a4.toNat:Int))*256+(a5.toNat:Int))*256+(a6.toNat:Int)) a7.toNat (by omega) (by omega) (by omega) (by omega)
  refine (oh (low7 a1 a2 a3 a4 a5 a6 a7 _ _).symm ?_)
  simp only [L1,L2,L3,L4,L5,L6,L7]
  rfl
 | [a1,a2,a3,a4,a5,a6,a7,a8],_=>by
  have ha1:=zl a1
  have ha2:=zl a2
  have ha3:=zl a3
  have ha4:=zl a4
  have ha5:=zl a5
  have ha6:=zl a6
  have ha7:=zl a7
  have ha8:=zl a8
  have L1:=lw0 a1.toNat (by omega) (by omega)
  have L2:=lw (0*256+(a1.toNat:Int)) a2.toNat (by omega) (by omega) (by omega) (by omega)
  have L3:=lw ((0*256+(a1.toNat:Int))*256+(a2.toNat:Int)) a3.toNat (by omega) (by omega) (by omega) (by omega)
  have L4:=lw (((0*256+(a1.toNat:Int))*256+(a2.toNat:Int))*256+(a3.toNat:Int)) a4.toNat (by omega) (by omega) (by omega) (by omega)
  have L5:=lw ((((0*256+(a1.toNat:Int))*256+(a2.toNat:Int))*256+(a3.toNat:Int))*256+(a4.toNat:Int)) a5.toNat (by omega) (by omega) (by omega) (by omega)
  have L6:=lw (((((0*256+(a1.toNat:Int))*256+(a2.toNat:Int))*256+(a3.toNat:Int))*256+(a4.toNat:Int))*256+(a5.toNat:Int)) a6.toNat (by omega) (by omega) (by omega) (by omega)
  have L7:=lw ((((((0*256+(a1.toNat:Int))*256+(a2.toNat:Int))*256+(a3.toNat:Int))*256+(a4.toNat:Int))*256+(a5.toNat:Int))*256+(a6.toNat:Int)) a7.toNat (by omega) (by omega) (by omega) (by omega)
  have L8:=lw (((((((0*256+(a1.toNat:Int))*256+(a2.toNat:Int))*256+(a3.toNat:Int))*256+(a4.toNat:Int))*256+(a5.toNat:Int))*256+(a6.toNat:Int))*256+(a7.toNat:Int)) a8.toNat (by omega) (by omega) (by omega) (by omega)
  refine (oh (low8 a1 a2 a3 a4 a5 a6 a7 a8 _ _).symm ?_)
  simp only [L1,L2,L3,L4,L5,L6,L7,L8]
  rfl
 | _::_::_::_::_::_::_::_::_::_,h=>by simp at h
theorem vP (l:List UInt8)(m:Nat):List.take (l.length - m) (List.drop m l)=List.drop m l:=List.take_of_length_le (by simp)
theorem jz (n:Int)(h0:0≤n)(h1:n≤18446744073709551615):Goal P 0 51 (fun x _=>x=.str (row n)) (zb P 51 [.str [],.int .u64 n] GW):=zeP [] n h0 h1 (by simp)
theorem zkK {w l:List UInt8}(h:¬ w=l):(!w==l)=true:=by simp [h]
theorem zlu {w l:List UInt8}(h:w=l):(!w==l)=false:=by simp [h]
theorem zo9 (f:UInt8)(t:List UInt8)(hs:f.toNat≤240)(hlt:tl f.toNat≤t.length)(hrow:row (val f.toNat (t.take (tl f.toNat)))=f::t.take (tl f.toNat)):Goal P 1 60 (fun v H=>v=.int .u64 (val f.toNat (t.take (tl f.toNat)))∧H=rh (List.drop (1+tl f.toNat) (f::t)) false) (ze P 60 [.ptr 0 0 0] (rh (f::t) false)):=by
 have hf:=zl f
 have hk:tl f.toNat=0:=by simp only [tl,if_pos hs]
 have hv:∀ t,val f.toNat t=f.toNat:=fun t=>by simp only [val,if_pos hs]
 have hwf:IntKind.i64.wrap (f.toNat:Int)=f.toNat:=IntWalk.i64_in _ (by omega)
 have hl:(f::t).length=t.length+1:=rfl
 have hlen:tl f.toNat≤t.length:=hlt
 have hlow:Goal P 0 80 (fun x _=>x=.int .u64 (be (t.take (tl f.toNat)))) (zb P 80 [.str (t.take (tl f.toNat))] GW):=js _ (by have:=za2 f; rw [List.length_take]; omega)
 obtain ⟨v0,v1⟩:=xo f (t.take (tl f.toNat)) (by rw [List.length_take]; omega)
 have hput:=jz _ v0 v1
 have e1:IntKind.u64.wrap (f.toNat:Int)=val f.toNat (t.take (tl f.toNat)):=by rw [hv]; exact IntWalk.u64_in _ (by omega)
 have htk:List.take (1+tl f.toNat) (List.drop 0 (f::t))=f::t.take (tl f.toNat):=by rw [List.drop_zero,Nat.add_comm,List.take_succ_cons]
 have hne:(!(row (val f.toNat (t.take (tl f.toNat))))==List.take (1+tl f.toNat) (List.drop 0 (f::t)))=false:=zlu (hrow.trans htk.symm)
 refine (oh (zic f t (row (val f.toNat (t.take (tl f.toNat)))) (be (t.take (tl f.toNat))) _ _).symm ?_)
 simp only [hwf,e1,vP]
 simp only [hl]
 simp only [hk] at hlow hput hne ⊢
 and_intros
 all_goals first | exact hlow | (rw [← e1]; exact hput) | exact congrArg (AV.int IntKind.u64) e1.symm | exact hput | exact hne | exact decide_eq_false (by omega) | exact decide_eq_true (by omega) | exact beq_eq_false_iff_ne.2 (by omega) | exact beq_iff_eq.2 (by omega) | omega | (show (1:Int)≤_; omega) | (show (2:Int)≤_; omega) | (show (3:Int)≤_; omega) | exact decide_eq_false (by show ¬ _<(2:Int); omega) | exact decide_eq_false (by show ¬ _<(3:Int); omega) | (refine wz _ _ _ _ _ _ _ rfl rfl ?_ ?_ <;> first | rfl | omega | (show _≤t.length+1; omega)) | trivial | rfl
theorem zmR (f:UInt8)(t:List UInt8)(hs:f.toNat≤240)(hlt:tl f.toNat≤t.length)(hrow:¬ row (val f.toNat (t.take (tl f.toNat)))=f::t.take (tl f.toNat)):Goal P 1 60 (fun v H=>v=.int .u64 0∧H=rh [] true) (ze P 60 [.ptr 0 0 0] (rh (f::t) false)):=by
 have hf:=zl f
 have hk:tl f.toNat=0:=by simp only [tl,if_pos hs]
 have hv:∀ t,val f.toNat t=f.toNat:=fun t=>by simp only [val,if_pos hs]
 have hwf:IntKind.i64.wrap (f.toNat:Int)=f.toNat:=IntWalk.i64_in _ (by omega)
 have hl:(f::t).length=t.length+1:=rfl
 have hlen:tl f.toNat≤t.length:=hlt
 have hlow:Goal P 0 80 (fun x _=>x=.int .u64 (be (t.take (tl f.toNat)))) (zb P 80 [.str (t.take (tl f.toNat))] GW):=js _ (by have:=za2 f; rw [List.length_take]; omega)
 obtain ⟨v0,v1⟩:=xo f (t.take (tl f.toNat)) (by rw [List.length_take]; omega)
 have hput:=jz _ v0 v1
 have e1:IntKind.u64.wrap (f.toNat:Int)=val f.toNat (t.take (tl f.toNat)):=by rw [hv]; exact IntWalk.u64_in _ (by omega)
 have htk:List.take (1+tl f.toNat) (List.drop 0 (f::t))=f::t.take (tl f.toNat):=by rw [List.drop_zero,Nat.add_comm,List.take_succ_cons]
 have hne:(!(row (val f.toNat (t.take (tl f.toNat))))==List.take (1+tl f.toNat) (List.drop 0 (f::t)))=true:=zkK (fun h=>hrow (h.trans htk))
 refine (oh (zii f t (row (val f.toNat (t.take (tl f.toNat)))) (be (t.take (tl f.toNat))) _ _).symm ?_)
 simp only [hwf,e1]
 simp only [hl]
 simp only [hk] at hlow hput hne ⊢
 and_intros
 all_goals first | exact hlow | (rw [← e1]; exact hput) | exact congrArg (AV.int IntKind.u64) e1.symm | exact hput | exact hne | exact decide_eq_false (by omega) | exact decide_eq_true (by omega) | exact beq_eq_false_iff_ne.2 (by omega) | exact beq_iff_eq.2 (by omega) | omega | (show (1:Int)≤_; omega) | (show (2:Int)≤_; omega) | (show (3:Int)≤_; omega) | exact decide_eq_false (by show ¬ _<(2:Int); omega) | exact decide_eq_false (by show ¬ _<(3:Int); omega) | (refine wz _ _ _ _ _ _ _ rfl rfl ?_ ?_ <;> first | rfl | omega | (show _≤t.length+1; omega)) | trivial | rfl
theorem zpK (f:UInt8)(t:List UInt8)(hs:241≤f.toNat∧f.toNat<249)(hlt:tl f.toNat≤t.length)(hrow:row (val f.toNat (t.take (tl f.toNat)))=f::t.take (tl f.toNat)):Goal P 1 60 (fun v H=>v=.int .u64 (val f.toNat (t.take (tl f.toNat)))∧H=rh (List.drop (1+tl f.toNat) (f::t)) false) (ze P 60 [.ptr 0 0 0] (rh (f::t) false)):=by
 have hf:=zl f
 have n1:¬ f.toNat≤240:=by omega
 have hk:tl f.toNat=1:=by simp only [tl,if_neg n1,if_pos hs.2]
 have hwf:IntKind.i64.wrap (f.toNat:Int)=f.toNat:=IntWalk.i64_in _ (by omega)
 have hl:(f::t).length=t.length+1:=rfl
 have hlen:tl f.toNat≤t.length:=hlt
 have hlow:Goal P 0 80 (fun x _=>x=.int .u64 (be (t.take (tl f.toNat)))) (zb P 80 [.str (t.take (tl f.toNat))] GW):=js _ (by have:=za2 f; rw [List.length_take]; omega)
 obtain ⟨v0,v1⟩:=xo f (t.take (tl f.toNat)) (by rw [List.length_take]; omega)
 have hput:=jz _ v0 v1
 have e0:IntKind.i64.wrap ((f.toNat:Int) - 241)=(f.toNat:Int) - 241:=IntWalk.i64_in _ (by omega)
 have e1:IntKind.u64.wrap (IntKind.u64.wrap (be (t.take (tl f.toNat))+240)+IntKind.u64.wrap (256*IntKind.u64.wrap ((f.toNat:Int) - 241)))=val f.toNat (t.take (tl f.toNat)):=by
  have hb:0≤be (t.take (tl f.toNat))∧be (t.take (tl f.toNat))<256:=by
   have:=qC (t.take (tl f.toNat)) 0 (by omega)
   rw [show (t.take (tl f.toNat)).length=1 by rw [List.length_take,hk]; omega] at this
   simpa [be] using this
  rw [IntWalk.u64_in ((f.toNat:Int) - 241) (by omega),IntWalk.u64_in (256*((f.toNat:Int) - 241)) (by omega),IntWalk.u64_in (be (t.take (tl f.toNat))+240) (by omega),IntWalk.u64_in _ (by omega)]
  simp only [val,if_neg n1,if_pos hs.2]
 have htk:List.take (1+tl f.toNat) (List.drop 0 (f::t))=f::t.take (tl f.toNat):=by rw [List.drop_zero,Nat.add_comm,List.take_succ_cons]
 have hne:(!(row (val f.toNat (t.take (tl f.toNat))))==List.take (1+tl f.toNat) (List.drop 0 (f::t)))=false:=zlu (hrow.trans htk.symm)
 refine (oh (zeT f t (row (val f.toNat (t.take (tl f.toNat)))) (be (t.take (tl f.toNat))) _ _).symm ?_)
 simp only [hwf,e0,e1,vP]
 simp only [hl]
 simp only [hk] at hlow hput hne ⊢
 and_intros
 all_goals first | exact hlow | (rw [← e1]; exact hput) | exact congrArg (AV.int IntKind.u64) e1.symm | exact hput | exact hne | exact decide_eq_false (by omega) | exact decide_eq_true (by omega) | exact beq_eq_false_iff_ne.2 (by omega) | exact beq_iff_eq.2 (by omega) | omega | (show (1:Int)≤_; omega) | (show (2:Int)≤_; omega) | (show (3:Int)≤_; omega) | exact decide_eq_false (by show ¬ _<(2:Int); omega) | exact decide_eq_false (by show ¬ _<(3:Int); omega) | (refine wz _ _ _ _ _ _ _ rfl rfl ?_ ?_ <;> first | rfl | omega | (show _≤t.length+1; omega)) | trivial | rfl
theorem zn2 (f:UInt8)(t:List UInt8)(hs:241≤f.toNat∧f.toNat<249)(hlt:tl f.toNat≤t.length)(hrow:¬ row (val f.toNat (t.take (tl f.toNat)))=f::t.take (tl f.toNat)):Goal P 1 60 (fun v H=>v=.int .u64 0∧H=rh [] true) (ze P 60 [.ptr 0 0 0] (rh (f::t) false)):=by
 have hf:=zl f
 have n1:¬ f.toNat≤240:=by omega
 have hk:tl f.toNat=1:=by simp only [tl,if_neg n1,if_pos hs.2]
 have hwf:IntKind.i64.wrap (f.toNat:Int)=f.toNat:=IntWalk.i64_in _ (by omega)
 have hl:(f::t).length=t.length+1:=rfl
 have hlen:tl f.toNat≤t.length:=hlt
 have hlow:Goal P 0 80 (fun x _=>x=.int .u64 (be (t.take (tl f.toNat)))) (zb P 80 [.str (t.take (tl f.toNat))] GW):=js _ (by have:=za2 f; rw [List.length_take]; omega)
 obtain ⟨v0,v1⟩:=xo f (t.take (tl f.toNat)) (by rw [List.length_take]; omega)
 have hput:=jz _ v0 v1
 have e0:IntKind.i64.wrap ((f.toNat:Int) - 241)=(f.toNat:Int) - 241:=IntWalk.i64_in _ (by omega)
 have e1:IntKind.u64.wrap (IntKind.u64.wrap (be (t.take (tl f.toNat))+240)+IntKind.u64.wrap (256*IntKind.u64.wrap ((f.toNat:Int) - 241)))=val f.toNat (t.take (tl f.toNat)):=by
  have hb:0≤be (t.take (tl f.toNat))∧be (t.take (tl f.toNat))<256:=by
   have:=qC (t.take (tl f.toNat)) 0 (by omega)
   rw [show (t.take (tl f.toNat)).length=1 by rw [List.length_take,hk]; omega] at this
   simpa [be] using this
  rw [IntWalk.u64_in ((f.toNat:Int) - 241) (by omega),IntWalk.u64_in (256*((f.toNat:Int) - 241)) (by omega),IntWalk.u64_in (be (t.take (tl f.toNat))+240) (by omega),IntWalk.u64_in _ (by omega)]
  simp only [val,if_neg n1,if_pos hs.2]
 have htk:List.take (1+tl f.toNat) (List.drop 0 (f::t))=f::t.take (tl f.toNat):=by rw [List.drop_zero,Nat.add_comm,List.take_succ_cons]
 have hne:(!(row (val f.toNat (t.take (tl f.toNat))))==List.take (1+tl f.toNat) (List.drop 0 (f::t)))=true:=zkK (fun h=>hrow (h.trans htk))
 refine (oh (zeC f t (row (val f.toNat (t.take (tl f.toNat)))) (be (t.take (tl f.toNat))) _ _).symm ?_)
 simp only [hwf,e0,e1]
 simp only [hl]
 simp only [hk] at hlow hput hne ⊢
 and_intros
 all_goals first | exact hlow | (rw [← e1]; exact hput) | exact congrArg (AV.int IntKind.u64) e1.symm | exact hput | exact hne | exact decide_eq_false (by omega) | exact decide_eq_true (by omega) | exact beq_eq_false_iff_ne.2 (by omega) | exact beq_iff_eq.2 (by omega) | omega | (show (1:Int)≤_; omega) | (show (2:Int)≤_; omega) | (show (3:Int)≤_; omega) | exact decide_eq_false (by show ¬ _<(2:Int); omega) | exact decide_eq_false (by show ¬ _<(3:Int); omega) | (refine wz _ _ _ _ _ _ _ rfl rfl ?_ ?_ <;> first | rfl | omega | (show _≤t.length+1; omega)) | trivial | rfl
theorem zit (f:UInt8)(t:List UInt8)(hs:241≤f.toNat∧f.toNat<249)(hlt:¬ tl f.toNat≤t.length):Goal P 1 60 (fun v H=>v=.int .u64 0∧H=rh [] true) (ze P 60 [.ptr 0 0 0] (rh (f::t) false)):=by
 have hf:=zl f
 have n1:¬ f.toNat≤240:=by omega
 have hk:tl f.toNat=1:=by simp only [tl,if_neg n1,if_pos hs.2]
 have hwf:IntKind.i64.wrap (f.toNat:Int)=f.toNat:=IntWalk.i64_in _ (by omega)
 have hl:(f::t).length=t.length+1:=rfl
 refine (oh (zlm f t [] 0 _ _).symm ?_)
 simp only [hwf,hl]
 and_intros
 all_goals first | exact decide_eq_false (by omega) | exact decide_eq_true (by omega) | exact beq_eq_false_iff_ne.2 (by omega) | exact beq_iff_eq.2 (by omega) | (exact decide_eq_true (by show _<(2:Int); omega)) | (refine wz _ _ _ _ _ _ _ rfl rfl ?_ ?_ <;> first | rfl | omega | (show _≤t.length+1; omega)) | trivial | rfl
theorem zoG (f:UInt8)(t:List UInt8)(hs:f.toNat=249)(hlt:tl f.toNat≤t.length)(hrow:row (val f.toNat (t.take (tl f.toNat)))=f::t.take (tl f.toNat)):Goal P 1 60 (fun v H=>v=.int .u64 (val f.toNat (t.take (tl f.toNat)))∧H=rh (List.drop (1+tl f.toNat) (f::t)) false) (ze P 60 [.ptr 0 0 0] (rh (f::t) false)):=by
 have hf:=zl f
 have hk:tl f.toNat=2:=by rw [hs]; rfl
 have hwf:IntKind.i64.wrap (f.toNat:Int)=f.toNat:=IntWalk.i64_in _ (by omega)
 have hl:(f::t).length=t.length+1:=rfl
 have hlen:tl f.toNat≤t.length:=hlt
 have hlow:Goal P 0 80 (fun x _=>x=.int .u64 (be (t.take (tl f.toNat)))) (zb P 80 [.str (t.take (tl f.toNat))] GW):=js _ (by have:=za2 f; rw [List.length_take]; omega)
 obtain ⟨v0,v1⟩:=xo f (t.take (tl f.toNat)) (by rw [List.length_take]; omega)
 have hput:=jz _ v0 v1
 have e1:IntKind.u64.wrap (be (t.take (tl f.toNat))+2288)=val f.toNat (t.take (tl f.toNat)):=by
  have hb:0≤be (t.take (tl f.toNat))∧be (t.take (tl f.toNat))<65536:=by
   have:=qC (t.take (tl f.toNat)) 0 (by omega)
   rw [show (t.take (tl f.toNat)).length=2 by rw [List.length_take,hk]; omega] at this
   simpa [be] using this
  rw [IntWalk.u64_in _ (by omega)]
  simp [val,hs]
 have htk:List.take (1+tl f.toNat) (List.drop 0 (f::t))=f::t.take (tl f.toNat):=by rw [List.drop_zero,Nat.add_comm,List.take_succ_cons]
 have hne:(!(row (val f.toNat (t.take (tl f.toNat))))==List.take (1+tl f.toNat) (List.drop 0 (f::t)))=false:=zlu (hrow.trans htk.symm)
 refine (oh (zhi f t (row (val f.toNat (t.take (tl f.toNat)))) (be (t.take (tl f.toNat))) _ _).symm ?_)
 simp only [hwf,e1,vP]
 simp only [hl]
 simp only [hk] at hlow hput hne ⊢
 and_intros
 all_goals first | exact hlow | (rw [← e1]; exact hput) | exact congrArg (AV.int IntKind.u64) e1.symm | exact hput | exact hne | exact decide_eq_false (by omega) | exact decide_eq_true (by omega) | exact beq_eq_false_iff_ne.2 (by omega) | exact beq_iff_eq.2 (by omega) | omega | (show (1:Int)≤_; omega) | (show (2:Int)≤_; omega) | (show (3:Int)≤_; omega) | exact decide_eq_false (by show ¬ _<(2:Int); omega) | exact decide_eq_false (by show ¬ _<(3:Int); omega) | (refine wz _ _ _ _ _ _ _ rfl rfl ?_ ?_ <;> first | rfl | omega | (show _≤t.length+1; omega)) | trivial | rfl
theorem znk (f:UInt8)(t:List UInt8)(hs:f.toNat=249)(hlt:tl f.toNat≤t.length)(hrow:¬ row (val f.toNat (t.take (tl f.toNat)))=f::t.take (tl f.toNat)):Goal P 1 60 (fun v H=>v=.int .u64 0∧H=rh [] true) (ze P 60 [.ptr 0 0 0] (rh (f::t) false)):=by
 have hf:=zl f
 have hk:tl f.toNat=2:=by rw [hs]; rfl
 have hwf:IntKind.i64.wrap (f.toNat:Int)=f.toNat:=IntWalk.i64_in _ (by omega)
 have hl:(f::t).length=t.length+1:=rfl
 have hlen:tl f.toNat≤t.length:=hlt
 have hlow:Goal P 0 80 (fun x _=>x=.int .u64 (be (t.take (tl f.toNat)))) (zb P 80 [.str (t.take (tl f.toNat))] GW):=js _ (by have:=za2 f; rw [List.length_take]; omega)
 obtain ⟨v0,v1⟩:=xo f (t.take (tl f.toNat)) (by rw [List.length_take]; omega)
 have hput:=jz _ v0 v1
 have e1:IntKind.u64.wrap (be (t.take (tl f.toNat))+2288)=val f.toNat (t.take (tl f.toNat)):=by
  have hb:0≤be (t.take (tl f.toNat))∧be (t.take (tl f.toNat))<65536:=by
   have:=qC (t.take (tl f.toNat)) 0 (by omega)
   rw [show (t.take (tl f.toNat)).length=2 by rw [List.length_take,hk]; omega] at this
   simpa [be] using this
  rw [IntWalk.u64_in _ (by omega)]
  simp [val,hs]
 have htk:List.take (1+tl f.toNat) (List.drop 0 (f::t))=f::t.take (tl f.toNat):=by rw [List.drop_zero,Nat.add_comm,List.take_succ_cons]
 have hne:(!(row (val f.toNat (t.take (tl f.toNat))))==List.take (1+tl f.toNat) (List.drop 0 (f::t)))=true:=zkK (fun h=>hrow (h.trans htk))
 refine (oh (zgN f t (row (val f.toNat (t.take (tl f.toNat)))) (be (t.take (tl f.toNat))) _ _).symm ?_)
 simp only [hwf,e1]
 simp only [hl]
 simp only [hk] at hlow hput hne ⊢
 and_intros
 all_goals first | exact hlow | (rw [← e1]; exact hput) | exact congrArg (AV.int IntKind.u64) e1.symm | exact hput | exact hne | exact decide_eq_false (by omega) | exact decide_eq_true (by omega) | exact beq_eq_false_iff_ne.2 (by omega) | exact beq_iff_eq.2 (by omega) | omega | (show (1:Int)≤_; omega) | (show (2:Int)≤_; omega) | (show (3:Int)≤_; omega) | exact decide_eq_false (by show ¬ _<(2:Int); omega) | exact decide_eq_false (by show ¬ _<(3:Int); omega) | (refine wz _ _ _ _ _ _ _ rfl rfl ?_ ?_ <;> first | rfl | omega | (show _≤t.length+1; omega)) | trivial | rfl
theorem zhV (f:UInt8)(t:List UInt8)(hs:f.toNat=249)(hlt:¬ tl f.toNat≤t.length):Goal P 1 60 (fun v H=>v=.int .u64 0∧H=rh [] true) (ze P 60 [.ptr 0 0 0] (rh (f::t) false)):=by
 have hf:=zl f
 have hk:tl f.toNat=2:=by rw [hs]; rfl
 have hwf:IntKind.i64.wrap (f.toNat:Int)=f.toNat:=IntWalk.i64_in _ (by omega)
 have hl:(f::t).length=t.length+1:=rfl
 refine (oh (zm1 f t [] 0 _ _).symm ?_)
 simp only [hwf,hl]
 and_intros
 all_goals first | exact decide_eq_false (by omega) | exact decide_eq_true (by omega) | exact beq_eq_false_iff_ne.2 (by omega) | exact beq_iff_eq.2 (by omega) | (exact decide_eq_true (by show _<(3:Int); omega)) | (refine wz _ _ _ _ _ _ _ rfl rfl ?_ ?_ <;> first | rfl | omega | (show _≤t.length+1; omega)) | trivial | rfl
theorem zoU (f:UInt8)(t:List UInt8)(hs:250≤f.toNat)(hlt:tl f.toNat≤t.length)(hrow:row (val f.toNat (t.take (tl f.toNat)))=f::t.take (tl f.toNat)):Goal P 1 60 (fun v H=>v=.int .u64 (val f.toNat (t.take (tl f.toNat)))∧H=rh (List.drop (1+tl f.toNat) (f::t)) false) (ze P 60 [.ptr 0 0 0] (rh (f::t) false)):=by
 have hf:=zl f
 have hk:tl f.toNat=f.toNat - 247:=by
  unfold tl
  rw [if_neg (by omega),if_neg (by omega),if_neg (by omega)]
 have e2:IntKind.i64.wrap ((f.toNat:Int) - 247)=(f.toNat:Int) - 247:=IntWalk.i64_in _ (by omega)
 have e3:IntKind.i64.wrap ((1:Int)+((f.toNat:Int) - 247))=((1+tl f.toNat:Nat):Int):=by rw [IntWalk.i64_in _ (by omega),hk]; omega
 have hwf:IntKind.i64.wrap (f.toNat:Int)=f.toNat:=IntWalk.i64_in _ (by omega)
 have hl:(f::t).length=t.length+1:=rfl
 have hlen:tl f.toNat≤t.length:=hlt
 have hlow:Goal P 0 80 (fun x _=>x=.int .u64 (be (t.take (tl f.toNat)))) (zb P 80 [.str (t.take (tl f.toNat))] GW):=js _ (by have:=za2 f; rw [List.length_take]; omega)
 obtain ⟨v0,v1⟩:=xo f (t.take (tl f.toNat)) (by rw [List.length_take]; omega)
 have hput:=jz _ v0 v1
 have e1:val f.toNat (t.take (tl f.toNat))=be (t.take (tl f.toNat)):=by
  unfold val
  rw [if_neg (by omega),if_neg (by omega),if_neg (by omega)]
 have htk:List.take (1+tl f.toNat) (List.drop 0 (f::t))=f::t.take (tl f.toNat):=by rw [List.drop_zero,Nat.add_comm,List.take_succ_cons]
 have hne:(!(row (val f.toNat (t.take (tl f.toNat))))==List.take (1+tl f.toNat) (List.drop 0 (f::t)))=false:=zlu (hrow.trans htk.symm)
 refine (oh (zgQ f t (row (val f.toNat (t.take (tl f.toNat)))) (be (t.take (tl f.toNat))) _ _).symm ?_)
 simp only [hwf,e2,e3,Int.toNat_natCast,Nat.add_sub_cancel_left,vP]
 simp only [hl]
 and_intros
 all_goals first | exact hlow | (rw [← e1]; exact hput) | exact congrArg (AV.int IntKind.u64) e1.symm | exact hput | exact hne | exact decide_eq_false (by omega) | exact decide_eq_true (by omega) | exact beq_eq_false_iff_ne.2 (by omega) | exact beq_iff_eq.2 (by omega) | omega | (show (1:Int)≤_; omega) | (show (2:Int)≤_; omega) | (show (3:Int)≤_; omega) | exact decide_eq_false (by show ¬ _<(2:Int); omega) | exact decide_eq_false (by show ¬ _<(3:Int); omega) | (refine wz _ _ _ _ _ _ _ rfl rfl ?_ ?_ <;> first | rfl | omega | (show _≤t.length+1; omega)) | trivial | rfl
theorem zmN (f:UInt8)(t:List UInt8)(hs:250≤f.toNat)(hlt:tl f.toNat≤t.length)(hrow:¬ row (val f.toNat (t.take (tl f.toNat)))=f::t.take (tl f.toNat)):Goal P 1 60 (fun v H=>v=.int .u64 0∧H=rh [] true) (ze P 60 [.ptr 0 0 0] (rh (f::t) false)):=by
 have hf:=zl f
 have hk:tl f.toNat=f.toNat - 247:=by
  unfold tl
  rw [if_neg (by omega),if_neg (by omega),if_neg (by omega)]
 have e2:IntKind.i64.wrap ((f.toNat:Int) - 247)=(f.toNat:Int) - 247:=IntWalk.i64_in _ (by omega)
 have e3:IntKind.i64.wrap ((1:Int)+((f.toNat:Int) - 247))=((1+tl f.toNat:Nat):Int):=by rw [IntWalk.i64_in _ (by omega),hk]; omega
 have hwf:IntKind.i64.wrap (f.toNat:Int)=f.toNat:=IntWalk.i64_in _ (by omega)
 have hl:(f::t).length=t.length+1:=rfl
 have hlen:tl f.toNat≤t.length:=hlt
 have hlow:Goal P 0 80 (fun x _=>x=.int .u64 (be (t.take (tl f.toNat)))) (zb P 80 [.str (t.take (tl f.toNat))] GW):=js _ (by have:=za2 f; rw [List.length_take]; omega)
 obtain ⟨v0,v1⟩:=xo f (t.take (tl f.toNat)) (by rw [List.length_take]; omega)
 have hput:=jz _ v0 v1
 have e1:val f.toNat (t.take (tl f.toNat))=be (t.take (tl f.toNat)):=by
  unfold val
  rw [if_neg (by omega),if_neg (by omega),if_neg (by omega)]
 have htk:List.take (1+tl f.toNat) (List.drop 0 (f::t))=f::t.take (tl f.toNat):=by rw [List.drop_zero,Nat.add_comm,List.take_succ_cons]
 have hne:(!(row (val f.toNat (t.take (tl f.toNat))))==List.take (1+tl f.toNat) (List.drop 0 (f::t)))=true:=zkK (fun h=>hrow (h.trans htk))
 refine (oh (zgV f t (row (val f.toNat (t.take (tl f.toNat)))) (be (t.take (tl f.toNat))) _ _).symm ?_)
 simp only [hwf,e2,e3,Int.toNat_natCast,Nat.add_sub_cancel_left]
 simp only [hl]
 and_intros
 all_goals first | exact hlow | (rw [← e1]; exact hput) | exact congrArg (AV.int IntKind.u64) e1.symm | exact hput | exact hne | exact decide_eq_false (by omega) | exact decide_eq_true (by omega) | exact beq_eq_false_iff_ne.2 (by omega) | exact beq_iff_eq.2 (by omega) | omega | (show (1:Int)≤_; omega) | (show (2:Int)≤_; omega) | (show (3:Int)≤_; omega) | exact decide_eq_false (by show ¬ _<(2:Int); omega) | exact decide_eq_false (by show ¬ _<(3:Int); omega) | (refine wz _ _ _ _ _ _ _ rfl rfl ?_ ?_ <;> first | rfl | omega | (show _≤t.length+1; omega)) | trivial | rfl
theorem zhy (f:UInt8)(t:List UInt8)(hs:250≤f.toNat)(hlt:¬ tl f.toNat≤t.length):Goal P 1 60 (fun v H=>v=.int .u64 0∧H=rh [] true) (ze P 60 [.ptr 0 0 0] (rh (f::t) false)):=by
 have hf:=zl f
 have hk:tl f.toNat=f.toNat - 247:=by
  unfold tl
  rw [if_neg (by omega),if_neg (by omega),if_neg (by omega)]
 have e2:IntKind.i64.wrap ((f.toNat:Int) - 247)=(f.toNat:Int) - 247:=IntWalk.i64_in _ (by omega)
 have e3:IntKind.i64.wrap ((1:Int)+((f.toNat:Int) - 247))=((1+tl f.toNat:Nat):Int):=by rw [IntWalk.i64_in _ (by omega),hk]; omega
 have hwf:IntKind.i64.wrap (f.toNat:Int)=f.toNat:=IntWalk.i64_in _ (by omega)
 have hl:(f::t).length=t.length+1:=rfl
 refine (oh (zoL f t [] 0 _ _).symm ?_)
 simp only [hwf,e2,e3,hl]
 and_intros
 all_goals first | exact decide_eq_false (by omega) | exact decide_eq_true (by omega) | exact beq_eq_false_iff_ne.2 (by omega) | exact beq_iff_eq.2 (by omega) | (exact decide_eq_true (by show _<(2:Int); omega)) | (refine wz _ _ _ _ _ _ _ rfl rfl ?_ ?_ <;> first | rfl | omega | (show _≤t.length+1; omega)) | trivial | rfl
theorem ju (left:List UInt8){n:Int}{k:Nat}(hp:xf left=some (n,k)):Goal P 1 60 (fun v H=>v=.int .u64 n∧H=rh (left.drop k) false) (ze P 60 [.ptr 0 0 0] (rh left false)):=by
 cases left with
 | nil=>cases hp
 | cons f t =>
  rw [yA] at hp
  split at hp
  rotate_left
  · cases hp
  rename_i hc
  cases hp
  have hf:=zl f
  rcases jR f with hs | hs | hs | hs | hs | hs | hs | hs | hs
  · exact zo9 f t hs hc.1 hc.2
  · exact zpK f t hs hc.1 hc.2
  · exact zoG f t hs hc.1 hc.2
  all_goals exact zoU f t (by omega) hc.1 hc.2
theorem zfp (left:List UInt8)(hp:xf left=none):Goal P 1 60 (fun v H=>v=.int .u64 0∧H=rh [] true) (ze P 60 [.ptr 0 0 0] (rh left false)):=by
 cases left with
 | nil=>exact (oh (refE false _ _).symm ⟨rfl,rfl⟩)
 | cons f t =>
  rw [yA] at hp
  split at hp
  · cases hp
  rename_i hc
  have hf:=zl f
  by_cases hlt:tl f.toNat≤t.length
  · have hrow:¬ row (val f.toNat (t.take (tl f.toNat)))=f::t.take (tl f.toNat):=fun h=>hc ⟨hlt,h⟩
    rcases jR f with hs | hs | hs | hs | hs | hs | hs | hs | hs
    · exact zmR f t hs hlt hrow
    · exact zn2 f t hs hlt hrow
    · exact znk f t hs hlt hrow
    all_goals exact zmN f t (by omega) hlt hrow
  · rcases jR f with hs | hs | hs | hs | hs | hs | hs | hs | hs
    · exact absurd (by rw [show tl f.toNat=0 by simp only [tl,if_pos hs]]; omega) hlt
    · exact zit f t hs hlt
    · exact zhV f t hs hlt
    all_goals exact zhy f t (by omega) hlt
theorem zbX (left:List UInt8)(hbig:left.length≤100000){n:Int}{k:Nat}(hp:xf left=some (n,k))(hn:n≤(left.length - k:Nat)) :
 Goal P 1 62 (fun v H=>v=.str ((left.drop k).take n.toNat)∧H=rh (left.drop (k+n.toNat)) false) (ze P 62 [.ptr 0 0 0] (rh left false)):=by
 obtain ⟨n0,n1,_,n3,_⟩:=zM hp
 have hl:(left.drop k).length=left.length - k:=by simp
 have w1:IntKind.u64.wrap (((left.drop k).length:Nat):Int)=(left.length - k:Nat):=by rw [hl]; exact IntWalk.u64_in _ (by omega)
 refine (oh (zkc left (left.drop k) false false n _ _).symm ⟨ju left hp,gtf (by rw [w1]; exact hn),by rw [hl]; omega,by rw [hl]; omega,?_,?_⟩)
 · rw [Nat.sub_zero,List.drop_zero]
 · rw [vP,List.drop_drop]; rfl
theorem jX (left:List UInt8)(hbig:left.length≤100000)(hp:xf left=none∨∃ n k,xf left=some (n,k)∧((left.length - k:Nat):Int)<n) :
 Goal P 1 62 (fun v H=>v=.str []∧H=rh [] true) (ze P 62 [.ptr 0 0 0] (rh left false)):=by
 rcases hp with hp | ⟨n,k,hp,hn⟩
 · exact (oh (zkc left [] false true 0 _ _).symm ⟨zfp left hp,by decide,by decide,by decide,rfl,rfl⟩)
 · have hl:(left.drop k).length=left.length - k:=by simp
   have w1:IntKind.u64.wrap (((left.drop k).length:Nat):Int)=(left.length - k:Nat):=by rw [hl]; exact IntWalk.u64_in _ (by omega)
   exact (oh (zpQ left (left.drop k) false false n _ _).symm ⟨ju left hp,gtt (by rw [w1]; exact hn),rfl,rfl⟩)
end Go.Proofs.YtdbfpjgnlfejmaaDoor.mq
end
