import Derived.Test.YtcdpmiebmhjmpaaP00
import Derived.Test.YtcdpmiebmhjmpaaP01
import Derived.Test.YtcdpmiebmhjmpaaP02
import Derived.Test.YtcdpmiebmhjmpaaP03
import Derived.Test.YtcdpmiebmhjmpaaP04
import Derived.Test.YtcdpmiebmhjmpaaP05
section
set_option maxRecDepth 100000
set_option linter.unusedVariables false
namespace Go.Proofs.Ytcdpmiebmhjmpaa.lrp
open Go Ev lr
noncomputable def WP (off len cap:Nat) (i:Int) (rest:List AFrame) (O:T AObj) (N:Nat) (G:T (T AV)):AM:=⟨⟨3,121,(.node (.node (.node (.node .leaf (some (.int .i64 i)) .leaf) none .leaf) (some (.slc 0 0 off len cap)) (.node .leaf (some (.ptr 2 0 0)) .leaf)) none (.node .leaf none (.node .leaf (some (.ptr 3 0 0)) .leaf))),
 [.code (cd P 3 [1,1,1,0,1,0,0]),.inLoop (cd P 3 [1,1,1,0,1,0,0]),.inBlock 0,.code (cd P 3 [1,1,1,1])],[],.run,CallKind.normal,none⟩,
 rest,
 ⟨O,N,G⟩⟩
noncomputable def D1 (off:Nat) (len:Nat) (cap:Nat) (i:Int) (k:Int) (v:Int):AFrame:=⟨3,121,(.node (.node (.node (.node (.node (.node (.node .leaf (some (.ptr 2 0 0)) .leaf) (some (.int .i64 i)) .leaf) none .leaf) (some (.int .i64 i)) (.node (.node (.node .leaf (some (.ptr 0 0 (off+i.toNat*3))) .leaf) none .leaf) (some (.bool (decide (i<(↑len:Int))))) .leaf)) none (.node (.node (.node (.node .leaf (some (.ptr 0 0 (off+i.toNat*3+1))) .leaf) none .leaf) none .leaf) none (.node .leaf (some (.bool true)) .leaf))) (some (.slc 0 0 off len cap)) (.node (.node (.node (.node (.node .leaf (some (.int .i64 i)) .leaf) (some (.ptr 0 0 (off+i.toNat*3))) .leaf) none .leaf) none (.node (.node (.node .leaf (some (.int .i64 v)) .leaf) none .leaf) (some (.int .i64 i)) .leaf)) (some (.ptr 2 0 0)) (.node (.node (.node (.node .leaf (some (.slc 0 0 off len cap)) .leaf) none .leaf) (some (.slc 0 0 off len cap)) .leaf) none .leaf))) none (.node (.node (.node (.node (.node (.node .leaf (some (.slc 0 0 off len cap)) .leaf) (some (.ptr 0 0 (off+i.toNat*3))) .leaf) none .leaf) none (.node (.node (.node .leaf (some (.ptr 0 0 (off+i.toNat*3+2))) .leaf) none .leaf) (some (.bool true)) .leaf)) none (.node (.node (.node (.node .leaf (some (.int .i64 k)) .leaf) none .leaf) (some (.int .i64 i)) .leaf) none .leaf)) none (.node (.node (.node (.node (.node .leaf (some (.ptr 0 0 (off+i.toNat*3))) .leaf) (some (.bool false)) .leaf) none .leaf) none (.node .leaf (some (.bool (decide (i<(200:Int))))) .leaf)) (some (.ptr 3 0 0)) (.node (.node (.node (.node .leaf (some (.int .i64 i)) .leaf) none .leaf) (some (.int .i64 (↑len:Int))) .leaf) none (.node .leaf (some (.slc 0 0 off len cap)) .leaf))))),   [.drw (rg P 3 [1,1,1,0,1,0,0,1,0,0,0,1,1,0]) [11] [10,9,8,7,6,5,4,3,2,1,0],.code (cd P 3 [1,1,1,0,1,0,0,1,0,0,0,1,1,1]),.code (cd P 3 [1,1,1,0,1,0,0,1,0,0,1]),.inBlock 1,.code (cd P 3 [1,1,1,0,1,0,0,1,1]),.inLoop (cd P (3:FuncId) [1,1,1,0,1,0,0]),.inBlock 0,.code (cd P (3:FuncId) [1,1,1,1])],[],.run,CallKind.normal,none⟩
noncomputable def G1 (off:Nat) (len:Nat) (cap:Nat) (i:Int) (k:Int):AFrame:=⟨3,121,(.node (.node (.node (.node (.node (.node .leaf (some (.int .i64 i)) .leaf) none .leaf) (some (.int .i64 i)) (.node (.node .leaf (some (.ptr 0 0 (off+i.toNat*3))) .leaf) (some (.bool (decide (i<(↑len:Int))))) .leaf)) none (.node .leaf none (.node .leaf (some (.bool true)) .leaf))) (some (.slc 0 0 off len cap)) (.node (.node (.node (.node .leaf (some (.ptr 0 0 (off+i.toNat*3))) .leaf) none .leaf) none (.node (.node .leaf (some (.int .i64 k)) .leaf) (some (.int .i64 i)) .leaf)) (some (.ptr 2 0 0)) (.node (.node (.node .leaf (some (.slc 0 0 off len cap)) .leaf) (some (.slc 0 0 off len cap)) .leaf) none .leaf))) none (.node (.node (.node (.node (.node .leaf (some (.ptr 0 0 (off+i.toNat*3))) .leaf) none .leaf) none (.node (.node .leaf (some (.ptr 0 0 (off+i.toNat*3+1))) .leaf) (some (.bool true)) .leaf)) none (.node (.node (.node .leaf (some (.ptr 2 0 0)) .leaf) (some (.int .i64 i)) .leaf) none .leaf)) none (.node (.node (.node (.node .leaf (some (.bool true)) .leaf) none .leaf) none (.node .leaf (some (.bool (decide (i<(200:Int))))) .leaf)) (some (.ptr 3 0 0)) (.node (.node (.node .leaf (some (.int .i64 i)) .leaf) (some (.int .i64 (↑len:Int))) .leaf) none (.node .leaf (some (.slc 0 0 off len cap)) .leaf))))),   [.ops (rg P 3 [1,1,1,0,1,0,0,1,0,0,0,1,0,0]).toList ((rg P 3 [1,1,1,0,1,0,0,1,0,0,0,1,0,0]).toList.drop 6),.code (cd P 3 [1,1,1,0,1,0,0,1,0,0,0,1,0,1]),.code (cd P 3 [1,1,1,0,1,0,0,1,0,0,1]),.inBlock 1,.code (cd P 3 [1,1,1,0,1,0,0,1,1]),.inLoop (cd P (3:FuncId) [1,1,1,0,1,0,0]),.inBlock 0,.code (cd P (3:FuncId) [1,1,1,1])],[],.run,CallKind.normal,none⟩
noncomputable def D2 (off:Nat) (len:Nat) (cap:Nat) (i:Int) (k:Int) (v:Int):AFrame:=⟨3,121,(.node (.node (.node (.node (.node (.node (.node .leaf (some (.ptr 2 0 0)) .leaf) (some (.int .i64 i)) .leaf) none (.node (.node .leaf (some (.ptr 0 0 (off+i.toNat*3+1))) .leaf) none .leaf)) (some (.int .i64 i)) (.node (.node (.node .leaf (some (.ptr 0 0 (off+i.toNat*3))) .leaf) none .leaf) (some (.bool (decide (i<(↑len:Int))))) .leaf)) none (.node (.node (.node (.node .leaf (some (.ptr 0 0 (off+i.toNat*3+1))) .leaf) none .leaf) none (.node (.node .leaf (some (.ptr 0 0 (off+i.toNat*3))) .leaf) none .leaf)) none (.node (.node (.node .leaf (some (.ptr 3 0 0)) .leaf) none .leaf) (some (.bool true)) .leaf))) (some (.slc 0 0 off len cap)) (.node (.node (.node (.node (.node .leaf (some (.int .i64 i)) .leaf) (some (.ptr 0 0 (off+i.toNat*3))) .leaf) none (.node (.node .leaf (some (.slc 0 0 off len cap)) .leaf) none .leaf)) none (.node (.node (.node .leaf (some (.int .i64 v)) .leaf) none .leaf) (some (.int .i64 i)) .leaf)) (some (.ptr 2 0 0)) (.node (.node (.node (.node .leaf (some (.slc 0 0 off len cap)) .leaf) none .leaf) (some (.slc 0 0 off len cap)) (.node (.node .leaf (some (.int .i64 v)) .leaf) none .leaf)) none (.node (.node (.node .leaf (some (.int .i64 i)) .leaf) none .leaf) none .leaf)))) none (.node (.node (.node (.node (.node (.node .leaf (some (.slc 0 0 off len cap)) .leaf) (some (.ptr 0 0 (off+i.toNat*3))) .leaf) none (.node (.node .leaf (some (.int .i64 k)) .leaf) none .leaf)) none (.node (.node (.node .leaf (some (.ptr 0 0 (off+i.toNat*3+2))) .leaf) none .leaf) (some (.bool true)) .leaf)) none (.node (.node (.node (.node .leaf (some (.int .i64 k)) .leaf) none .leaf) (some (.int .i64 i)) (.node (.node .leaf (some (.ptr 0 0 (off+i.toNat*3+2))) .leaf) none .leaf)) none (.node (.node (.node .leaf (some (.slc 0 0 off len cap)) .leaf) none .leaf) none .leaf))) none (.node (.node (.node (.node (.node .leaf (some (.ptr 0 0 (off+i.toNat*3))) .leaf) (some (.bool false)) .leaf) none (.node (.node .leaf (some (.int .i64 i)) .leaf) none .leaf)) none (.node (.node (.node .leaf (some (.tup [])) .leaf) none .leaf) (some (.bool (decide (i<(200:Int))))) .leaf)) (some (.ptr 3 0 0)) (.node (.node (.node (.node .leaf (some (.int .i64 i)) .leaf) none .leaf) (some (.int .i64 (↑len:Int))) .leaf) none (.node (.node (.node .leaf (some (.ptr 0 0 (off+i.toNat*3))) .leaf) none .leaf) (some (.slc 0 0 off len cap)) .leaf))))),   [.drw (rg P 3 [1,1,1,0,1,0,0,1,0,0,0,1,1,1]) [11] [10,9,8,7,6,5,4,3,2,1,0],.code (cd P (3:FuncId) [1,1,1,0,1,0,0,1,0,0,1]),.inBlock 1,.code (cd P (3:FuncId) [1,1,1,0,1,0,0,1,1]),.inLoop (cd P (3:FuncId) [1,1,1,0,1,0,0]),.inBlock 0,.code (cd P (3:FuncId) [1,1,1,1])],[],.run,CallKind.normal,none⟩
noncomputable def G2 (off:Nat) (len:Nat) (cap:Nat) (i:Int) (k:Int) (v:Int) (bb:Bool):AFrame:=⟨3,121,(.node (.node (.node (.node (.node (.node .leaf (some (.int .i64 i)) .leaf) none (.node .leaf (some (.slc 0 0 off len cap)) .leaf)) (some (.int .i64 i)) (.node (.node .leaf (some (.ptr 0 0 (off+i.toNat*3))) .leaf) (some (.bool (decide (i<(↑len:Int))))) .leaf)) none (.node (.node (.node .leaf (some (.tup [.int .i64 v,.bool bb])) .leaf) none (.node .leaf (some (.int .i64 k)) .leaf)) none (.node (.node .leaf (some (.int .i64 v)) .leaf) (some (.bool true)) .leaf))) (some (.slc 0 0 off len cap)) (.node (.node (.node (.node .leaf (some (.ptr 0 0 (off+i.toNat*3))) .leaf) none (.node .leaf (some (.ptr 0 0 (off+i.toNat*3))) .leaf)) (some (.bool bb)) (.node (.node .leaf (some (.int .i64 k)) .leaf) (some (.int .i64 i)) .leaf)) (some (.ptr 2 0 0)) (.node (.node (.node .leaf (some (.slc 0 0 off len cap)) .leaf) (some (.slc 0 0 off len cap)) .leaf) none .leaf))) none (.node (.node (.node (.node (.node .leaf (some (.ptr 0 0 (off+i.toNat*3))) .leaf) none (.node .leaf (some (.int .i64 i)) .leaf)) (some (.int .i64 v)) (.node (.node .leaf (some (.ptr 0 0 (off+i.toNat*3+1))) .leaf) (some (.bool true)) .leaf)) none (.node (.node (.node .leaf (some (.ptr 2 0 0)) .leaf) (some (.int .i64 i)) .leaf) none (.node (.node .leaf (some (.bool bb)) .leaf) none .leaf))) none (.node (.node (.node (.node .leaf (some (.bool true)) .leaf) none (.node .leaf (some (.ptr 0 0 (off+i.toNat*3+1))) .leaf)) none (.node (.node .leaf (some (.tup [.int .i64 v,.bool bb])) .leaf) (some (.bool (decide (i<(200:Int))))) .leaf)) (some (.ptr 3 0 0)) (.node (.node (.node .leaf (some (.int .i64 i)) .leaf) (some (.int .i64 (↑len:Int))) .leaf) none (.node (.node .leaf (some (.ptr 3 0 0)) .leaf) (some (.slc 0 0 off len cap)) .leaf))))),   [.ops (rg P 3 [1,1,1,0,1,0,0,1,0,0,0,1,0,1,0]).toList ((rg P 3 [1,1,1,0,1,0,0,1,0,0,0,1,0,1,0]).toList.drop 6),.code (cd P 3 [1,1,1,0,1,0,0,1,0,0,0,1,0,1,1]),.code (cd P (3:FuncId) [1,1,1,0,1,0,0,1,0,0,1]),.inBlock 1,.code (cd P (3:FuncId) [1,1,1,0,1,0,0,1,1]),.inLoop (cd P (3:FuncId) [1,1,1,0,1,0,0]),.inBlock 0,.code (cd P (3:FuncId) [1,1,1,1])],[],.run,CallKind.normal,none⟩
noncomputable def MP (off:Nat) (len:Nat) (cap:Nat) (i:Int) (rest:List AFrame) (O:T AObj) (N:Nat) (G:T (T AV)):AM:=⟨⟨3,121,(.node (.node (.node (.node .leaf (some (.int .i64 i)) .leaf) none .leaf) (some (.slc 0 0 off len cap)) (.node .leaf (some (.ptr 2 0 0)) .leaf)) none (.node .leaf none (.node .leaf (some (.ptr 3 0 0)) .leaf))),   [.code (cd P (3:FuncId) [1,1,1,0,1,0,0,1,0,0,1]),.inBlock 1,.code (cd P (3:FuncId) [1,1,1,0,1,0,0,1,1]),.inLoop (cd P (3:FuncId) [1,1,1,0,1,0,0]),.inBlock 0,.code (cd P (3:FuncId) [1,1,1,1])],[],.run,CallKind.normal,none⟩,
 rest,
 ⟨O,N,G⟩⟩
noncomputable def K1 (off:Nat) (len:Nat) (cap:Nat) (i:Int):AFrame:=⟨3,121,(.node (.node (.node (.node .leaf (some (.int .i64 i)) (.node .leaf none (.node (.node .leaf (some (.ptr 2 0 0)) .leaf) none .leaf))) none .leaf) (some (.slc 0 0 off len cap)) (.node .leaf (some (.ptr 2 0 0)) .leaf)) none (.node .leaf none (.node .leaf (some (.ptr 3 0 0)) .leaf))),   [.ops (rg P 3 [1,1,1,0,1,0,0,1,0,0,1,0]).toList ((rg P 3 [1,1,1,0,1,0,0,1,0,0,1,0]).toList.drop 1),.code (cd P 3 [1,1,1,0,1,0,0,1,0,0,1,1]),.inBlock 1,.code (cd P (3:FuncId) [1,1,1,0,1,0,0,1,1]),.inLoop (cd P (3:FuncId) [1,1,1,0,1,0,0]),.inBlock 0,.code (cd P (3:FuncId) [1,1,1,1])],[],.run,CallKind.normal,none⟩
noncomputable def K2 (off:Nat) (len:Nat) (cap:Nat) (i:Int) (ks:AV):AFrame:=⟨3,121,(.node (.node (.node (.node .leaf (some (.int .i64 i)) (.node .leaf none (.node (.node .leaf (some (.ptr 2 0 0)) .leaf) none .leaf))) none .leaf) (some (.slc 0 0 off len cap)) (.node (.node .leaf none (.node .leaf none (.node (.node .leaf (some ks) .leaf) none .leaf))) (some (.ptr 2 0 0)) .leaf)) none (.node (.node (.node .leaf none (.node .leaf none (.node (.node .leaf (some ks) .leaf) none .leaf))) none (.node .leaf (some ks) .leaf)) none (.node (.node .leaf none (.node .leaf none (.node (.node .leaf (some (.ptr 3 0 0)) .leaf) none .leaf))) (some (.ptr 3 0 0)) .leaf))),   [.drw (rg P 3 [1,1,1,0,1,0,0,1,0,0,1,1,0,0]) [2,3,4,5,6,8,9,10,11,12,7,13,14] [1,0],.code (cd P 3 [1,1,1,0,1,0,0,1,0,0,1,1,0,1]),.code (cd P 3 [1,1,1,0,1,0,0,1,0,0,1,1,1]),.inBlock 1,.code (cd P (3:FuncId) [1,1,1,0,1,0,0,1,1]),.inLoop (cd P (3:FuncId) [1,1,1,0,1,0,0]),.inBlock 0,.code (cd P (3:FuncId) [1,1,1,1])],[],.run,CallKind.normal,none⟩
noncomputable def K3 (off:Nat) (len:Nat) (cap:Nat) (i:Int) (ki:Nat) (y:Nat) (kn:Nat) (kj:Nat) (z:Nat):AFrame:=⟨3,121,(.node (.node (.node (.node .leaf (some (.int .i64 i)) (.node .leaf none (.node (.node .leaf (some (.ptr 2 0 0)) .leaf) none .leaf))) none (.node .leaf none (.node .leaf none (.node (.node .leaf (some (.slg kj z 0 kn 0)) .leaf) none .leaf)))) (some (.slc 0 0 off len cap)) (.node (.node .leaf none (.node .leaf none (.node (.node .leaf (some (.slg ki y 0 kn 0)) .leaf) none .leaf))) (some (.ptr 2 0 0)) .leaf)) none (.node (.node (.node .leaf none (.node .leaf none (.node (.node .leaf (some (.slg ki y 0 kn 0)) .leaf) none .leaf))) none (.node .leaf (some (.slg ki y 0 kn 0)) .leaf)) none (.node (.node .leaf none (.node .leaf none (.node (.node .leaf (some (.ptr 3 0 0)) .leaf) none .leaf))) (some (.ptr 3 0 0)) .leaf))),   [.drw (rg P (3:FuncId) [1,1,1,0,1,0,0,1,0,0,1,1,0,0]) [3,4,5,6,8,9,10,11,12,7,13,14] [2,1,0],.code (cd P (3:FuncId) [1,1,1,0,1,0,0,1,0,0,1,1,0,1]),.code (cd P (3:FuncId) [1,1,1,0,1,0,0,1,0,0,1,1,1]),.inBlock 1,.code (cd P (3:FuncId) [1,1,1,0,1,0,0,1,1]),.inLoop (cd P (3:FuncId) [1,1,1,0,1,0,0]),.inBlock 0,.code (cd P (3:FuncId) [1,1,1,1])],[],.run,CallKind.normal,none⟩
noncomputable def XP (off:Nat) (len:Nat) (cap:Nat) (i:Int) (j:Int) (ks:AV) (rest:List AFrame) (O:T AObj) (N:Nat) (G:T (T AV)):AM:=⟨⟨3,121,(.node (.node (.node (.node .leaf (some (.int .i64 i)) .leaf) none .leaf) (some (.slc 0 0 off len cap)) (.node .leaf (some (.ptr 2 0 0)) (.node .leaf (some (.int .i64 j)) .leaf))) none (.node (.node .leaf none (.node .leaf (some (ks)) .leaf)) none (.node .leaf (some (.ptr 3 0 0)) .leaf))),   [.code (cd P 3 [1,1,1,0,1,0,0,1,0,0,1,1,1,1,0,0]),.inLoop (cd P 3 [1,1,1,0,1,0,0,1,0,0,1,1,1,1,0,0]),.inBlock 2,.inBlock 1,.code (cd P (3:FuncId) [1,1,1,0,1,0,0,1,1]),.inLoop (cd P (3:FuncId) [1,1,1,0,1,0,0]),.inBlock 0,.code (cd P (3:FuncId) [1,1,1,1])],[],.run,CallKind.normal,none⟩,
 rest,
 ⟨O,N,G⟩⟩
noncomputable def F1  : AFrame:=⟨3,121,(.node (.node .leaf none (.node (.node (.node .leaf none (.node .leaf none (.node .leaf (some (.ptr 2 0 0)) .leaf))) none .leaf) (some (.ptr 2 0 0)) .leaf)) none (.node .leaf none (.node .leaf (some (.ptr 3 0 0)) .leaf))),   [.ops (rg P 3 [1,1,1,1,0]).toList ((rg P 3 [1,1,1,1,0]).toList.drop 1),.code (cd P 13 [1,0,1,0,1])],[],.run,CallKind.normal,none⟩
noncomputable def F2 (ks:AV):AFrame:=⟨3,121,(.node (.node (.node .leaf none (.node (.node .leaf none (.node .leaf none (.node .leaf (some (.ptr 3 0 0)) .leaf))) none .leaf)) none (.node (.node (.node .leaf none (.node .leaf none (.node .leaf (some (.ptr 2 0 0)) .leaf))) none .leaf) (some (.ptr 2 0 0)) .leaf)) none (.node .leaf none (.node (.node (.node .leaf none (.node .leaf none (.node .leaf (some ks) .leaf))) none .leaf) (some (.ptr 3 0 0)) .leaf))),   [.ops (rg P (3:FuncId) [1,1,1,1,0]).toList ((rg P (3:FuncId) [1,1,1,1,0]).toList.drop 3),.code (cd P (13:FuncId) [1,0,1,0,1])],[],.run,CallKind.normal,none⟩
noncomputable def F3 (ki:Nat) (y:Nat) (kn:Nat) (kj:Nat) (z:Nat):AFrame:=⟨3,121,(.node (.node (.node .leaf none (.node (.node .leaf none (.node .leaf none (.node .leaf (some (.ptr 3 0 0)) .leaf))) none .leaf)) none (.node (.node (.node .leaf none (.node .leaf none (.node .leaf (some (.ptr 2 0 0)) .leaf))) none .leaf) (some (.ptr 2 0 0)) .leaf)) none (.node (.node .leaf none (.node (.node .leaf none (.node .leaf none (.node .leaf (some (.slg kj z 0 kn 0)) .leaf))) none .leaf)) none (.node (.node (.node .leaf none (.node .leaf none (.node .leaf (some (.slg ki y 0 kn 0)) .leaf))) none .leaf) (some (.ptr 3 0 0)) .leaf))),   [.ops (rg P (3:FuncId) [1,1,1,1,0]).toList ((rg P (3:FuncId) [1,1,1,1,0]).toList.drop 4),.code (cd P (13:FuncId) [1,0,1,0,1])],[],.run,CallKind.normal,none⟩
theorem q_pa (R:AV→AHeap→Prop)(keep:Nat)(f0:FuncId)(rest:List AFrame)(off:Nat)(len:Nat)(cap:Nat)(i:Int)(k:Int)(v:Int)(N:Nat)(O:T AObj)(G:T (T AV))(K:AM→Prop):Obl P f0 (fun v h=>R v h) keep K [.run 8,.know 24 true,.run 4,.know 27 true,.run 9,.op,.run 1,.hop (.bool false) O,.run 7,.op,.run 1,.hop (.int .i64 k) O,.run 2,.op,.run 1,.hop (.int .i64 v) O,.run 1] ((WP off len cap i rest O N G))=((decide (i<(↑len:Int))=true)∧(decide (i<(200:Int))=true)∧((0:Int)≤i∧i<(↑len:Int))∧(za (⟨O,N,G⟩) 0 0 (off+i.toNat*3) 1=(some [.bool false]))∧((0:Int)≤i∧i<(↑len:Int))∧(za (⟨O,N,G⟩) 0 0 (off+i.toNat*3+1) 1=(some [.int .i64 k]))∧((0:Int)≤i∧i<(↑len:Int))∧(za (⟨O,N,G⟩) 0 0 (off+i.toNat*3+2) 1=(some [.int .i64 v]))∧K (AM.mk (enF 10 [.ptr 2 0 0,.int .i64 k,.int .i64 v]) ((D1 off len cap i k v)::rest) ⟨O,N,G⟩)):=by kernel_rfl
theorem q_ga (R:AV→AHeap→Prop)(keep:Nat)(f0:FuncId)(rest:List AFrame)(off:Nat)(len:Nat)(cap:Nat)(i:Int)(k:Int)(N:Nat)(O:T AObj)(G:T (T AV))(K:AM→Prop):Obl P f0 (fun v h=>R v h) keep K [.run 8,.know 24 true,.run 4,.know 27 true,.run 9,.op,.run 1,.hop (.bool true) O,.run 7,.op,.run 1,.hop (.int .i64 k) O,.run 1] ((WP off len cap i rest O N G))=((decide (i<(↑len:Int))=true)∧(decide (i<(200:Int))=true)∧((0:Int)≤i∧i<(↑len:Int))∧(za (⟨O,N,G⟩) 0 0 (off+i.toNat*3) 1=(some [.bool true]))∧((0:Int)≤i∧i<(↑len:Int))∧(za (⟨O,N,G⟩) 0 0 (off+i.toNat*3+1) 1=(some [.int .i64 k]))∧K (AM.mk (enF 8 [.ptr 2 0 0,.int .i64 k]) ((G1 off len cap i k)::rest) ⟨O,N,G⟩)):=by kernel_rfl
theorem q_pb (R:AV→AHeap→Prop)(keep:Nat)(f0:FuncId)(rest:List AFrame)(off:Nat)(len:Nat)(cap:Nat)(i:Int)(k:Int)(v:Int)(td:List AItem)(N:Nat)(O:T AObj)(G:T (T AV))(K:AM→Prop):Obl P f0 (fun v h=>R v h) keep K [.run 6,.op,.run 1,.hop (.int .i64 k) O,.run 2,.op,.run 1,.hop (.int .i64 v) O,.run 1] ((AM.mk (RF 10 53 .leaf td) ((D1 off len cap i k v)::rest) ⟨O,N,G⟩))=(((0:Int)≤i∧i<(↑len:Int))∧(za (⟨O,N,G⟩) 0 0 (off+i.toNat*3+1) 1=(some [.int .i64 k]))∧((0:Int)≤i∧i<(↑len:Int))∧(za (⟨O,N,G⟩) 0 0 (off+i.toNat*3+2) 1=(some [.int .i64 v]))∧K (AM.mk (enF 11 [.ptr 3 0 0,.int .i64 k,.int .i64 v]) ((D2 off len cap i k v)::rest) ⟨O,N,G⟩)):=by kernel_rfl
theorem q_gb (R:AV→AHeap→Prop)(keep:Nat)(f0:FuncId)(rest:List AFrame)(off:Nat)(len:Nat)(cap:Nat)(i:Int)(k:Int)(v:Int)(bb:Bool)(td:List AItem)(N:Nat)(O:T AObj)(G:T (T AV))(K:AM→Prop):Obl P f0 (fun v h=>R v h) keep K [.run 12,.op,.run 1,.hop (.int .i64 k) O,.run 1] ((AM.mk (RF 8 25 (.node (.node .leaf none (.node .leaf (some (.bool bb)) .leaf)) none (.node (.node .leaf (some (.int .i64 v)) .leaf) none .leaf)) td) ((G1 off len cap i k)::rest) ⟨O,N,G⟩))=(((0:Int)≤i∧i<(↑len:Int))∧(za (⟨O,N,G⟩) 0 0 (off+i.toNat*3+1) 1=(some [.int .i64 k]))∧K (AM.mk (enF 9 [.ptr 3 0 0,.int .i64 k]) ((G2 off len cap i k v bb)::rest) ⟨O,N,G⟩)):=by kernel_rfl
theorem q_pc (R:AV→AHeap→Prop)(keep:Nat)(f0:FuncId)(rest:List AFrame)(off:Nat)(len:Nat)(cap:Nat)(i:Int)(k:Int)(v:Int)(td:List AItem)(N:Nat)(O:T AObj)(G:T (T AV))(K:AM→Prop):Obl P f0 (fun v h=>R v h) keep K [.run 2,.keep [1,5,6,7]] ((AM.mk (RF 11 55 .leaf td) ((D2 off len cap i k v)::rest) ⟨O,N,G⟩))=(K (MP off len cap i rest O N G)):=by kernel_rfl
theorem q_gc (R:AV→AHeap→Prop)(keep:Nat)(f0:FuncId)(rest:List AFrame)(off:Nat)(len:Nat)(cap:Nat)(i:Int)(k:Int)(v:Int)(bb:Bool)(td:List AItem)(N:Nat)(O:T AObj)(G:T (T AV))(K:AM→Prop):Obl P f0 (fun v h=>R v h) keep K [.run 13,.know 58 false,.run 5,.know 62 false,.run 2,.keep [1,5,6,7]] ((AM.mk (RF 9 21 (.node (.node .leaf none (.node .leaf (some (.bool bb)) .leaf)) none (.node (.node .leaf (some (.int .i64 v)) .leaf) none .leaf)) td) ((G2 off len cap i k v bb)::rest) ⟨O,N,G⟩))=(((v != v)=false)∧((!bb==bb)=false)∧K (MP off len cap i rest O N G)):=by kernel_rfl
theorem q_ka (R:AV→AHeap→Prop)(keep:Nat)(f0:FuncId)(rest:List AFrame)(off:Nat)(len:Nat)(cap:Nat)(i:Int)(N:Nat)(O:T AObj)(G:T (T AV))(K:AM→Prop):Obl P f0 (fun v h=>R v h) keep K [.run 4] ((MP off len cap i rest O N G))=(K (AM.mk (enF 12 [.ptr 2 0 0]) ((K1 off len cap i)::rest) ⟨O,N,G⟩)):=by kernel_rfl
theorem q_kb (R:AV→AHeap→Prop)(keep:Nat)(f0:FuncId)(rest:List AFrame)(off:Nat)(len:Nat)(cap:Nat)(i:Int)(td:List AItem)(ks:AV)(N:Nat)(O:T AObj)(G:T (T AV))(K:AM→Prop):Obl P f0 (fun v h=>R v h) keep K [.run 9] ((AM.mk (RF 12 35 (.node .leaf none (.node .leaf (some ks) .leaf)) td) ((K1 off len cap i)::rest) ⟨O,N,G⟩))=(K (AM.mk (enF 14 [.ptr 3 0 0]) ((K2 off len cap i ks)::rest) ⟨O,N,G⟩)):=by kernel_rfl
theorem q_kc (R:AV→AHeap→Prop)(keep:Nat)(f0:FuncId)(rest:List AFrame)(off:Nat)(len:Nat)(cap:Nat)(i:Int)(ki:Nat)(y:Nat)(kn:Nat)(kj:Nat)(z:Nat)(td:List AItem)(N:Nat)(O:T AObj)(G:T (T AV))(K:AM→Prop):Obl P f0 (fun v h=>R v h) keep K [.run 2] ((AM.mk (RF 14 26 (.node .leaf none (.node .leaf (some (.slg kj z 0 kn 0)) .leaf)) td) ((K2 off len cap i (.slg ki y 0 kn 0))::rest) ⟨O,N,G⟩))=(K (AM.mk (enF 13 [.slg ki y 0 kn 0,.slg kj z 0 kn 0]) ((K3 off len cap i ki y kn kj z)::rest) ⟨O,N,G⟩)):=by kernel_rfl
theorem q_kd1 (R:AV→AHeap→Prop)(keep:Nat)(f0:FuncId)(rest:List AFrame)(off:Nat)(len:Nat)(cap:Nat)(i:Int)(kept:Int)(ki:Nat)(y:Nat)(kn:Nat)(kj:Nat)(z:Nat)(td:List AItem)(N:Nat)(O:T AObj)(pj:Nat)(pz:Nat)(pm:Nat)(G:T (T AV))(K:AM→Prop):Obl P f0 (fun v h=>R v h) keep K [.run 7,.hop (.slg pj pz 0 pm 0) O,.run 2,.run 17,.hop (.int .i64 kept) O,.run 3,.hret [.nilp],.run 3,.know 103 false,.run 8,.keep [1,5,6,7,12,13]] ((AM.mk (RF 13 26 (.node .leaf none (.node (.node .leaf (some (.bool true)) .leaf) none .leaf)) td) ((K3 off len cap i ki y kn kj z)::rest) ⟨O,N,G⟩))=((za (⟨O,N,G⟩) 3 0 1 1=(some [.slg pj pz 0 pm 0]))∧(za (⟨O,N,G⟩) 2 0 1 1=(some [.int .i64 kept]))∧(True)∧(some (AV.int .i64 (↑pm:Int))=some (AV.int .i64 (↑pm:Int)))∧(za (⟨O,N,G⟩) 3 0 1 1=(some [.slg pj pz 0 pm 0]))∧((kept != (↑pm:Int))=false)∧K (XP off len cap i (Int.ofNat 0) (AV.slg ki y 0 kn 0) rest O N G)):=by kernel_rfl
theorem q_kd2 (R:AV→AHeap→Prop)(keep:Nat)(f0:FuncId)(rest:List AFrame)(off:Nat)(len:Nat)(cap:Nat)(i:Int)(kept:Int)(ki:Nat)(y:Nat)(kn:Nat)(kj:Nat)(z:Nat)(td:List AItem)(N:Nat)(O:T AObj)(pj:Nat)(G:T (T AV))(K:AM→Prop):Obl P f0 (fun v h=>R v h) keep K [.run 7,.hop (.slc pj 0 0 1 1) O,.run 2,.run 17,.hop (.int .i64 kept) O,.run 3,.hret [.nilp],.run 3,.know 103 false,.run 8,.keep [1,5,6,7,12,13]] ((AM.mk (RF 13 26 (.node .leaf none (.node (.node .leaf (some (.bool true)) .leaf) none .leaf)) td) ((K3 off len cap i ki y kn kj z)::rest) ⟨O,N,G⟩))=((za (⟨O,N,G⟩) 3 0 1 1=(some [.slc pj 0 0 1 1]))∧(za (⟨O,N,G⟩) 2 0 1 1=(some [.int .i64 kept]))∧(True)∧(some (AV.int .i64 (Int.ofNat 1))=some (AV.int .i64 (Int.ofNat 1)))∧(za (⟨O,N,G⟩) 3 0 1 1=(some [.slc pj 0 0 1 1]))∧((kept != Int.ofNat 1)=false)∧K (XP off len cap i (Int.ofNat 0) (AV.slg ki y 0 kn 0) rest O N G)):=by kernel_rfl
theorem q_kn (R:AV→AHeap→Prop)(keep:Nat)(f0:FuncId)(rest:List AFrame)(off:Nat)(len:Nat)(cap:Nat)(i:Int)(kept:Int)(td:List AItem)(N:Nat)(O:T AObj)(G:T (T AV))(K:AM→Prop):Obl P f0 (fun v h=>R v h) keep K [.run 2,.run 37,.run 7,.hop (.nils 0 0) O,.run 2,.run 17,.hop (.int .i64 kept) O,.run 3,.hret [.nilp],.run 3,.know 103 false,.run 8,.keep [1,5,6,7,12,13]] ((AM.mk (RF 14 26 (.node .leaf none (.node .leaf (some (.nils 0 0)) .leaf)) td) ((K2 off len cap i (.nils 0 0))::rest) ⟨O,N,G⟩))=((za (⟨O,N,G⟩) 3 0 1 1=(some [.nils 0 0]))∧(za (⟨O,N,G⟩) 2 0 1 1=(some [.int .i64 kept]))∧(True)∧(some (AV.int .i64 (Int.ofNat 0))=some (AV.int .i64 (Int.ofNat 0)))∧(za (⟨O,N,G⟩) 3 0 1 1=(some [.nils 0 0]))∧((kept != Int.ofNat 0)=false)∧K (XP off len cap i (Int.ofNat 0) (AV.nils 0 0) rest O N G)):=by kernel_rfl
theorem q_xs (R:AV→AHeap→Prop)(keep:Nat)(f0:FuncId)(rest:List AFrame)(off:Nat)(len:Nat)(cap:Nat)(i:Int)(j:Int)(ki:Nat)(y:Nat)(kn:Nat)(N:Nat)(O:T AObj)(O1:T AObj)(G:T (T AV))(K:AM→Prop):Obl P f0 (fun v h=>R v h) keep K [.run 8,.know 107 true,.run 7,.op,.hop .nilp O1,.run 8,.keep [1,5,6,7,12,13]] ((XP off len cap i j (.slg ki y 0 kn 0) rest O N G))=((decide (j<(↑kn:Int))=true)∧((0:Int)≤j∧j<(↑kn:Int))∧(zc (⟨O,N,G⟩) (ki) (y) (0+j.toNat*1) ([.int .i64 (-1)])=(some ⟨O1,N,G⟩))∧K (XP off len cap i (IntKind.i64.wrap (j+(1:Int))) (AV.slg ki y 0 kn 0) rest O1 N G)):=by kernel_rfl
theorem q_xe (R:AV→AHeap→Prop)(keep:Nat)(f0:FuncId)(rest:List AFrame)(off:Nat)(len:Nat)(cap:Nat)(i:Int)(j:Int)(ki:Nat)(y:Nat)(kn:Nat)(N:Nat)(O:T AObj)(G:T (T AV))(K:AM→Prop):Obl P f0 (fun v h=>R v h) keep K [.run 8,.know 107 false,.run 9,.keep [1,5,6,7]] ((XP off len cap i j (.slg ki y 0 kn 0) rest O N G))=((decide (j<(↑kn:Int))=false)∧K (WP off len cap (IntKind.i64.wrap (i+(1:Int))) rest O N G)):=by kernel_rfl
section
set_option linter.unusedSectionVars false
variable (R:AV→AHeap→Prop) (keep:Nat) (f0:FuncId) (rest:List AFrame) (off:Nat) (len:Nat) (cap:Nat) (i:Int) (N:Nat) (O:T AObj) (G:T (T AV)) (K:AM→Prop)
include R keep f0 rest off len cap i N O G K
theorem q_xn:Obl P f0 (fun v h=>R v h) keep K [.run 17,.keep [1,5,6,7]] ((XP off len cap i 0 (.nils 0 0) rest O N G))=(K (WP off len cap (IntKind.i64.wrap (i+(1:Int))) rest O N G)):=by kernel_rfl
theorem q_e1:Obl P f0 (fun v h=>R v h) keep K [.run 8,.know 24 false,.run 6,.keep [5,6],.run 4] ((WP off len cap i rest O N G))=((decide (i<(↑len:Int))=false)∧K (AM.mk (enF 12 [.ptr 2 0 0]) ((F1)::rest) ⟨O,N,G⟩)):=by kernel_rfl
theorem q_e2:Obl P f0 (fun v h=>R v h) keep K [.run 8,.know 24 true,.run 4,.know 27 false,.run 2,.keep [5,6],.run 4] ((WP off len cap i rest O N G))=((decide (i<(↑len:Int))=true)∧(decide (i<(200:Int))=false)∧K (AM.mk (enF 12 [.ptr 2 0 0]) ((F1)::rest) ⟨O,N,G⟩)):=by kernel_rfl
end
theorem q_f2 (R:AV→AHeap→Prop)(keep:Nat)(f0:FuncId)(rest:List AFrame)(td:List AItem)(ks:AV)(N:Nat)(O:T AObj)(G:T (T AV))(K:AM→Prop):Obl P f0 (fun v h=>R v h) keep K [.run 3] ((AM.mk (RF 12 35 (.node .leaf none (.node .leaf (some ks) .leaf)) td) ((F1)::rest) ⟨O,N,G⟩))=(K (AM.mk (enF 14 [.ptr 3 0 0]) ((F2 ks)::rest) ⟨O,N,G⟩)):=by kernel_rfl
theorem q_f3 (R:AV→AHeap→Prop)(keep:Nat)(f0:FuncId)(rest:List AFrame)(ki:Nat)(y:Nat)(kn:Nat)(kj:Nat)(z:Nat)(td:List AItem)(N:Nat)(O:T AObj)(G:T (T AV))(K:AM→Prop):Obl P f0 (fun v h=>R v h) keep K [.run 2] ((AM.mk (RF 14 26 (.node .leaf none (.node .leaf (some (.slg kj z 0 kn 0)) .leaf)) td) ((F2 (.slg ki y 0 kn 0))::rest) ⟨O,N,G⟩))=(K (AM.mk (enF 13 [.slg ki y 0 kn 0,.slg kj z 0 kn 0]) ((F3 ki y kn kj z)::rest) ⟨O,N,G⟩)):=by kernel_rfl
theorem q_fn (R:AV→Prop)(td:List AItem)(N:Nat)(O:T AObj)(G:T (T AV))(_K:AM→Prop):Obl P 3 (fun v _=>R v) 0 _K [.run 2,.run 37,.run 3,.callv [] (.bool true),.run 4,.done] ((AM.mk (RF 14 26 (.node .leaf none (.node .leaf (some (.nils 0 0)) .leaf)) td) ((F2 (.nils 0 0))::[]) ⟨O,N,G⟩))=((Goal P 0 16 (fun x x_1=>x=AV.bool true) (ym P 16 [] G))∧(R (.bool true))):=by kernel_rfl
theorem q_f4 (R:AV→Prop)(ki:Nat)(y:Nat)(kn:Nat)(kj:Nat)(z:Nat)(td:List AItem)(N:Nat)(O:T AObj)(G:T (T AV))(_K:AM→Prop):Obl P 3 (fun v _=>R v) 0 _K [.run 3,.callv [] (.bool true),.run 4,.done] ((AM.mk (RF 13 26 (.node .leaf none (.node (.node .leaf (some (.bool true)) .leaf) none .leaf)) td) ((F3 ki y kn kj z)::[]) ⟨O,N,G⟩))=((Goal P 0 16 (fun x x_1=>x=AV.bool true) (ym P 16 [] G))∧(R (.bool true))):=by kernel_rfl
abbrev R0 (v:AV):Prop:=v=AV.bool true
abbrev GQ (m:AM):Prop:=Goal P 0 3 (fun v _=>R0 v) m
theorem jh {G:T (T AV)}:Goal P 0 16 (fun x _=>x=AV.bool true) (ym P 16 [] G):=Goal.ofRun mix (n:=40000) (by kernel_rfl) fun _=>rfl
def arow (q:lr.Act):List AV:=[.bool q.1,.int .i64 q.2.1,.int .i64 q.2.2]
def zbs (act:Nat→lr.Act) (j:Nat):AV:=(arow (act (j / 3))).getD (j % 3) xH
def zkr (O:T AObj) (act:Nat→lr.Act) (off cap:Nat):Prop:=O.get 0=some (.ro (.fn fun j=>some (zbs act (j - off))) off (off+cap*3))
variable {O O':T AObj} {N c m:Nat} {G:T (T AV)} {act:Nat→lr.Act} {off cap len n i:Nat} {L:List Ent} {sl:AV}
theorem qi (h:zkr O act off cap)(hi:i<cap)(u:Nat)(hu:u<3)(N:Nat)(G:T (T AV)):za ⟨O,N,G⟩ 0 0 (off+((i:Nat):Int).toNat*3+u) 1=some [(arow (act i)).getD u xH]:=by
 refine zjK h (by omega) (by omega) ?_
 show some (zbs act (off+((i:Nat):Int).toNat*3+u - off))=_
 rw [show off+((i:Nat):Int).toNat*3+u - off=i*3+u by omega]
 unfold zbs
 rw [show (i*3+u) / 3=i by omega,show (i*3+u) % 3=u by omega]
theorem zgi (h:zkr O act off cap)(hi:i<cap)(N:Nat)(G:T (T AV)):za ⟨O,N,G⟩ 0 0 (off+((i:Nat):Int).toNat*3) 1=some [.bool (act i).1]:=qi h hi 0 (by omega) N G
def sid:AV→Nat
 | .slg i _ _ _ _=>i
 | .slc i _ _ _ _=>i
 | _=>0
theorem zgY {lo hi:Nat}{ps:List (Int × Int)}(h:PV O lo hi ps sl):sid sl=0∨lo≤sid sl:=by
 rcases h with ⟨rfl,_⟩ | ⟨ri,rfl,h,_⟩ | ⟨ri,z,q,rfl,h,_⟩
 · exact .inl rfl
 · exact .inr h
 · exact .inr h
theorem jO {lo lo' hi hi':Nat}{ps:List (Int × Int)}(h:PV O lo hi ps sl)(e:O'.get (sid sl)=O.get (sid sl))(hl:lo'≤lo)(hh:hi≤hi'):PV O' lo' hi' ps sl:=by
 rcases h with h | ⟨ri,rfl,h1,h2,h3,h4⟩ | ⟨ri,z,q,rfl,h1,h2,h3,h4⟩
 · exact .inl h
 · exact .inr (.inl ⟨ri,rfl,by omega,by omega,h3,h4.same e⟩)
 · exact .inr (.inr ⟨ri,z,q,rfl,by omega,by omega,h3,h4.same e⟩)
def SRow (O:T AObj) (ri q:Nat):Prop:=∃ c el lo nv sg ex,O.get ri=some (.cells c (q+1) el lo q nv 0 sg ex)∧lo≤q
theorem SRow.store {ri q j:Nat}(h:SRow O ri q)(hj:j<q+1)(N:Nat)(G:T (T AV)):∃ O',zc ⟨O,N,G⟩ ri q (0+((j:Nat):Int).toNat*1) [.int .i64 (-1)]=some ⟨O',N,G⟩∧SRow O' ri q∧Frm O O' ri:=by
 obtain ⟨c,el,lo,nv,sg,ex,h1,h2⟩:=h
 refine ⟨O.set (some (.cells (zf c (0+((j:Nat):Int).toNat*1) [.int .i64 (-1)]) (q+1) el q q nv 0 sg ex)) ri,?_,⟨_,_,_,_,_,_,by rw [T.get_set,if_pos rfl],Nat.le_refl _⟩,fun j hj=>by rw [T.get_set,if_neg hj]⟩
 unfold zc
 show (match O.get ri with | some (.cells c n el lo hi nv fz sg ex)=>_ | _=>_)=_
 rw [h1]
 have hext:zj ex (q+1) q q=some (q+1):=by unfold zj; rw [if_pos rfl]
 simp only [hext]
 rw [if_pos ⟨h2,Nat.le_refl _,by show 0+((j:Nat):Int).toNat*1+1≤q+1; omega,Nat.zero_le _,rfl⟩,T.seq_eq]
 rfl
structure InvP (O:T AObj) (N:Nat) (act:Nat→lr.Act) (off cap c m:Nat) (L:List Ent) (sl:AV):Prop where
 ro:zkr O act off cap
 a:LR O 2 1 c L
 b:Row O 3 2 (rf c sl)
 p:PV O 4 N (L.map (·.2)) sl
 hN:4≤N
 ia:∀ x∈L,4≤x.1∧x.1<N
 dj:∀ x∈L,x.1≠sid sl
 hb:L.length≤m
theorem InvP.same {N':Nat}(h:InvP O N act off cap c m L sl)(hN':N≤N')(e:∀ j,j<N→O'.get j=O.get j):InvP O' N' act off cap c m L sl:=by
 obtain ⟨h1,h2,h3,h4,h5,h6,h7,h8⟩:=h
 have hs:sid sl<N:=by
  rcases h4 with ⟨rfl,_⟩ | ⟨ri,rfl,_,h,_⟩ | ⟨ri,z,q,rfl,_,h,_⟩
  · show 0<N; omega
  · exact h
  · exact h
 refine ⟨(e 0 (by omega)).trans h1,h2.same fun j hj=>?_,h3.same (e 3 (by omega)),jO h4 (e _ hs) (Nat.le_refl _) hN',by omega,fun x hx=>⟨(h6 x hx).1,by have:=(h6 x hx).2; omega⟩,h7,h8⟩
 rcases hj with rfl | rfl | ⟨x,hx,rfl⟩
 · exact e _ (by omega)
 · exact e _ (by omega)
 · exact e _ (h6 x hx).2
theorem zki {ri q:Nat}(hri:N≤ri)(hq:q<1000000000){M:Nat}(hNM:N≤M)(w:IntKind.i64.wrap (((i:Nat):Int)+(1:Int))=((i+1:Nat):Int))
 (hK:∀ O',InvP O' M act off cap c m L sl→GQ (WP off len cap ((i+1:Nat):Int) [] O' M G)) :
 ∀ (d j:Nat) (O:T AObj),j+d=q+1→InvP O N act off cap c m L sl→SRow O ri q→GQ (XP off len cap ((i:Nat):Int) ((j:Nat):Int) (.slg ri q 0 (q+1) 0) [] O M G)
 | 0,j,O,hd,h,hr=>by
  have hk:=hK O (h.same hNM fun _ _=>rfl)
  rw [← w] at hk
  exact (Obl.goal mix (K:=GQ) (fun _ h=>h) (cast (q_xe (fun v _=>R0 v) 0 3 [] off len cap ((i:Nat):Int) ((j:Nat):Int) ri q (q+1) M O G GQ).symm ⟨decide_eq_false (by omega),hk⟩))
 | d+1,j,O,hd,h,hr=>by
  obtain ⟨O1,s1,r1,f1⟩:=hr.store (j:=j) (by omega) M G
  have wj:IntKind.i64.wrap (((j:Nat):Int)+(1:Int))=((j+1:Nat):Int):=by rw [IntKind.wrap_i64]; omega
  have ih:=zki hri hq hNM w hK d (j+1) O1 (by omega) (h.same (Nat.le_refl _) fun k hk=>f1 k (by omega)) r1
  rw [← wj] at ih
  exact (Obl.goal mix (K:=GQ) (fun _ h=>h) (cast (q_xs (fun v _=>R0 v) 0 3 [] off len cap ((i:Nat):Int) ((j:Nat):Int) ri q (q+1) M O O1 G GQ).symm ⟨decide_eq_true (by omega),⟨by omega,by omega⟩,s1,ih⟩))
theorem mid (h:InvP O N act off cap c m L sl)(hm:m<1000)(hi:i<1000)
 (hK:∀ O' N',InvP O' N' act off cap c m L sl→GQ (WP off len cap ((i+1:Nat):Int) [] O' N' G)):GQ (MP off len cap ((i:Nat):Int) [] O N G):=by
 have hb:=h.hb
 have hN:=h.hN
 have w:IntKind.i64.wrap (((i:Nat):Int)+(1:Int))=((i+1:Nat):Int):=by rw [IntKind.wrap_i64]; omega
 refine (Obl.goal mix (K:=GQ) (fun _ h=>h) (cast (q_ka (fun v _=>R0 v) 0 3 [] off len cap ((i:Nat):Int) N O G GQ).symm ?_))
 refine zgI h.a (by omega) (fun x hx=>(h.ia x hx).2) (by omega) fun O1 N1 ks1 td1 hN1 fr1 kv1=>?_
 refine (Obl.goal mix (K:=GQ) (fun _ h=>h) (cast (q_kb (fun v _=>R0 v) 0 3 [] off len cap ((i:Nat):Int) td1 ks1 N1 O1 G GQ).symm ?_))
 have h1:=h.same hN1 fr1
 refine zeL h1.b (by omega) h1.p (by rw [List.length_map]; omega) fun O2 N2 ks2 td2 hN2 fr2 kv2=>?_
 have h2:=h1.same hN2 fr2
 have kv1':KV O2 N N1 (L.map (·.2.1)) ks1:=kv1.to (fun j _ hj=>fr2 j hj) (Nat.le_refl _)
 rw [List.map_map] at kv2
 have kv2':KV O2 N1 N2 (L.map (·.2.1)) ks2:=kv2
 have l2:za ⟨O2,N2,G⟩ 3 0 1 1=some [sl]:=h2.b.load1 (by omega)
 have lk:=h2.a.2.2.1.load N2 G
 have hp:=h2.p
 rcases kv1' with ⟨rfl,z1⟩ | ⟨ri,q,rfl,g1,g2,g3,gr1⟩
 · have l3:L=[]:=List.map_eq_nil_iff.1 z1
   subst l3
   rcases kv2' with ⟨rfl,z2⟩ | ⟨rj,qj,rfl,_,_,g4,gr4⟩
   rotate_left
   · exact absurd g4 (by simp)
   rcases hp with ⟨rfl,_⟩ | ⟨rj,rfl,_,_,e,_⟩ | ⟨rj,z,qq,rfl,_,_,e,_⟩
   rotate_left
   · exact absurd e (by simp)
   · exact absurd e (by simp)
   have hk:=hK O2 N2 h2
   rw [← w] at hk
   refine (Obl.goal mix (K:=GQ) (fun _ h=>h) (cast (q_kn (fun v _=>R0 v) 0 3 [] off len cap ((i:Nat):Int) (([]:List Ent).length:Nat) td2 N2 O2 G GQ).symm ⟨l2,lk,trivial,rfl,l2,rfl,?_⟩))
   exact (Obl.goal mix (K:=GQ) (fun _ h=>h) (cast (q_xn (fun v _=>R0 v) 0 3 [] off len cap ((i:Nat):Int) N2 O2 G GQ).symm hk))
 · rcases kv2' with ⟨rfl,z2⟩ | ⟨rj,qj,rfl,g5,g6,g4,gr4⟩
   · rw [List.map_eq_nil_iff.1 z2] at g3
     exact absurd g3 (by simp)
   obtain rfl:qj=q:=by omega
   have hlen:L.length=qj+1:=by rw [List.length_map] at g3; omega
   refine (Obl.goal mix (K:=GQ) (fun _ h=>h) (cast (q_kc (fun v _=>R0 v) 0 3 [] off len cap ((i:Nat):Int) ri qj (qj+1) rj qj td2 N2 O2 G GQ).symm ?_))
   refine zfW gr1 gr4 (Nat.le_refl _) (Nat.le_refl _) (fun _ _=>rfl) (by omega) fun td3=>?_
   have sr:SRow O2 ri qj:=by
    obtain ⟨c',sg,ex,q0,q1,q2⟩:=gr1
    exact ⟨c',_,_,_,_,_,q1,Nat.zero_le _⟩
   have xl:=zki (G:=G) (len:=len) (by omega) (by omega) (by omega) w (fun O' hh=>hK O' N2 hh) (qj+1) 0 O2 (by omega) (h.same (Nat.le_refl _) fun j hj=>(fr2 j (by omega)).trans (fr1 j hj)) sr
   rcases hp with ⟨rfl,e⟩ | ⟨rj',rfl,_,_,e,_⟩ | ⟨rj',z',qq,rfl,_,_,e,_⟩
   · rw [List.map_eq_nil_iff.1 e] at hlen
     exact absurd hlen (by simp)
   · rw [List.length_map] at e
     exact (Obl.goal mix (K:=GQ) (fun _ h=>h) (cast (q_kd2 (fun v _=>R0 v) 0 3 [] off len cap ((i:Nat):Int) ((L.length:Nat):Int) ri qj (qj+1) rj qj td3 N2 O2 rj' G GQ).symm ⟨l2,lk,trivial,rfl,l2,(show ((((L.length:Nat):Int) != ((1:Nat):Int))=false) by rw [e]; exact bne_self_eq_false _),xl⟩))
   · rw [List.length_map] at e
     exact (Obl.goal mix (K:=GQ) (fun _ h=>h) (cast (q_kd1 (fun v _=>R0 v) 0 3 [] off len cap ((i:Nat):Int) ((L.length:Nat):Int) ri qj (qj+1) rj qj td3 N2 O2 rj' z' (qq+1) G GQ).symm ⟨l2,lk,trivial,rfl,l2,(by rw [e]; exact bne_self_eq_false _),xl⟩))
theorem zh7 {k v:Int}{ps:List (Int × Int)}:(zdE c k v ps).length≤ps.length+1:=by
 unfold zdE
 split
 · omega
 · rw [List.length_cons]
   have h1:=List.length_take_le (c - 1) (ps.filter fun q=>!(q.1==k))
   have h2:=List.length_filter_le (fun q:Int × Int=>!(q.1==k)) ps
   have h3:((ps.filter fun q=>!(q.1==k)).take (c - 1)).length≤(ps.filter fun q=>!(q.1==k)).length:=by rw [List.length_take]; omega
   omega
theorem InvP.nodup (h:InvP O N act off cap c m L sl):((L.map (·.2)).map (·.1)).Nodup:=by
 rw [List.map_map]
 exact h.a.2.2.2.2.2.2.2.1
theorem round (h:InvP O N act off cap c i L sl)(hi:i<len)(hl:len≤cap)(h1:i<200)
 (hK:∀ O' N' L' sl',InvP O' N' act off cap c (i+1) L' sl'→GQ (WP off len cap ((i+1:Nat):Int) [] O' N' G)):GQ (WP off len cap ((i:Nat):Int) [] O N G):=by
 have hnd:=h.nodup
 obtain ⟨ro,ha,hbr,hp,hN,ia,dj,hb⟩:=h
 have hs:sid sl<N:=by
  rcases hp with ⟨rfl,_⟩ | ⟨ri,rfl,_,h,_⟩ | ⟨ri,z,q,rfl,_,h,_⟩
  · show 0<N; omega
  · exact h
  · exact h
 have hs4:sid sl=0∨4≤sid sl:=zgY hp
 have bi:(0:Int)≤((i:Nat):Int)∧((i:Nat):Int)<((len:Nat):Int):=⟨by omega,by omega⟩
 have l0:=zgi ro (show i<cap by omega) N G
 cases hg:(act i).1 with
 | false =>
  refine (Obl.goal mix (K:=GQ) (fun _ h=>h) (cast (q_pa (fun v _=>R0 v) 0 3 [] off len cap ((i:Nat):Int) ((act i).2.1) ((act i).2.2) N O G GQ).symm ⟨decide_eq_true (by omega),decide_eq_true (by omega),bi,by rw [l0,hg],bi,qi ro (show i<cap by omega) 1 (by omega) N G,bi,qi ro (show i<cap by omega) 2 (by omega) N G,?_⟩))
  refine zkf ha (by omega) (by omega) (fun x hx=>(ia x hx).2) (by omega) fun O1 N1 L' td1 ha1 hN1 ia1 pa1 fr1=>?_
  have fr1':∀ j,j<N→j≠2→j≠1→(∀ y∈L,y.1≠j)→O1.get j=O.get j:=fr1
  have ro1:zkr O1 act off cap:=(fr1' 0 (by omega) (by omega) (by omega) (fun y hy=>by have:=(ia y hy).1; omega)).trans ro
  have b1:Row O1 3 2 (rf c sl):=hbr.same (fr1' 3 (by omega) (by omega) (by omega) (fun y hy=>by have:=(ia y hy).1; omega))
  have p1:PV O1 4 N1 (L.map (·.2)) sl:=jO hp (fr1' _ hs (by omega) (by omega) dj) (Nat.le_refl _) hN1
  refine (Obl.goal mix (K:=GQ) (fun _ h=>h) (cast (q_pb (fun v _=>R0 v) 0 3 [] off len cap ((i:Nat):Int) ((act i).2.1) ((act i).2.2) td1 N1 O1 G GQ).symm ⟨bi,qi ro1 (show i<cap by omega) 1 (by omega) N1 G,bi,qi ro1 (show i<cap by omega) 2 (by omega) N1 G,?_⟩))
  have hlen:(L.map (·.2)).length≤c:=by rw [List.length_map]; exact ha.2.2.2.2.2.2.2.2.2
  refine zjW (lo:=4) b1 (by omega) (by omega) p1 hlen (by rw [List.length_map]; omega) fun O2 N2 s2 td2 b2 p2 fr2 hN2=>?_
  refine (Obl.goal mix (K:=GQ) (fun _ h=>h) (cast (q_pc (fun v _=>R0 v) 0 3 [] off len cap ((i:Nat):Int) ((act i).2.1) ((act i).2.2) td2 N2 O2 G GQ).symm ?_))
  refine mid (m:=i+1) (L:=L') (sl:=s2) ⟨(fr2 0 (by omega) (by omega)).trans ro1,ha1.same fun j hj=>?_,b2,?_,by omega,fun x hx=>?_,fun x hx=>?_,?_⟩ (by omega) (by omega) fun O' N' h'=>hK O' N' L' s2 h'
  · rcases hj with rfl | rfl | ⟨x,hx,rfl⟩
    · exact fr2 _ (by omega) (by omega)
    · exact fr2 _ (by omega) (by omega)
    · obtain ⟨q1,q2⟩:=ia1 x hx
      refine fr2 _ q1 ?_
      rcases q2 with q2 | ⟨y,hy,q2⟩
      · omega
      · have:=(ia y hy).1; omega
  · rw [pa1]
    exact jO p2 rfl (by omega) (Nat.le_refl _)
  · obtain ⟨q1,q2⟩:=ia1 x hx
    refine ⟨?_,by omega⟩
    rcases q2 with q2 | ⟨y,hy,q2⟩
    · omega
    · have:=(ia y hy).1; omega
  · obtain ⟨q1,q2⟩:=ia1 x hx
    rcases (zgY p2) with e | e
    · rw [e]
      rcases q2 with q2 | ⟨y,hy,q2⟩
      · omega
      · have:=(ia y hy).1; omega
    · omega
  · have e1:=congrArg List.length pa1
    have e2:=zh7 (c:=c) (k:=(act i).2.1) (v:=(act i).2.2) (ps:=L.map (·.2))
    rw [List.length_map] at e1 e2
    omega
 | true =>
  refine (Obl.goal mix (K:=GQ) (fun _ h=>h) (cast (q_ga (fun v _=>R0 v) 0 3 [] off len cap ((i:Nat):Int) ((act i).2.1) N O G GQ).symm ⟨decide_eq_true (by omega),decide_eq_true (by omega),bi,by rw [l0,hg],bi,qi ro (show i<cap by omega) 1 (by omega) N G,?_⟩))
  have go:∀ (is:Bool) (x:Int) (O1:T AObj) (L':List Ent) (td:List AItem),zkr O1 act off cap→LR O1 2 1 c L'→Row O1 3 2 (rf c sl)→PV O1 4 N (L.map (·.2)) sl→(∀ y∈L',4≤y.1∧y.1<N)→L'.map (·.2)=zfI (act i).2.1 (L.map (·.2))→L'.length=L.length →
   (∀ (b:Bool) (y:Int × Int),TB (act i).2.1 b y (L.map (·.2))→b=is∧y.2=x) →
   GQ (AM.mk (RF 8 25 (.node (.node .leaf none (.node .leaf (some (.bool is)) .leaf)) none (.node (.node .leaf (some (.int .i64 x)) .leaf) none .leaf)) td) [(G1 off len cap ((i:Nat):Int) (act i).2.1)] ⟨O1,N,G⟩):=fun is x O1 L' td ro1 ha1 b1 p1 ia1 heq hle hTB=>by
   refine (Obl.goal mix (K:=GQ) (fun _ h=>h) (cast (q_gb (fun v _=>R0 v) 0 3 [] off len cap ((i:Nat):Int) ((act i).2.1) x is td N O1 G GQ).symm ⟨bi,qi ro1 (show i<cap by omega) 1 (by omega) N G,?_⟩))
   refine zjA (lo:=4) b1 (by omega) (by omega) p1 (by rw [List.length_map]; omega) hnd fun O2 N2 s2 td2 b y b2 p2 fr2 hN2 hb2=>?_
   obtain ⟨rfl,rfl⟩:=hTB b y hb2
   refine (Obl.goal mix (K:=GQ) (fun _ h=>h) (cast (q_gc (fun v _=>R0 v) 0 3 [] off len cap ((i:Nat):Int) ((act i).2.1) y.2 b td2 N2 O2 G GQ).symm ⟨by simp,by simp,?_⟩))
   refine mid (m:=i+1) (L:=L') (sl:=s2) ⟨(fr2 0 (by omega) (by omega)).trans ro1,ha1.same fun j hj=>?_,b2,?_,by omega,fun x hx=>?_,fun x hx=>?_,by omega⟩ (by omega) (by omega) fun O' N' h'=>hK O' N' L' s2 h'
   · rcases hj with rfl | rfl | ⟨x,hx,rfl⟩
     · exact fr2 _ (by omega) (by omega)
     · exact fr2 _ (by omega) (by omega)
     · exact fr2 _ (ia1 x hx).2 (by have:=(ia1 x hx).1; omega)
   · rw [heq]
     exact jO p2 rfl (by omega) (Nat.le_refl _)
   · have:=ia1 x hx
     exact ⟨this.1,by omega⟩
   · have:=ia1 x hx
     rcases (zgY p2) with e | e
     · rw [e]; omega
     · omega
  refine zkl ha (fun hk td=>?_) fun p u ws O1 td hL hpk ha' fr'=>?_
  · have hq:∀ q∈L.map (·.2),q.1≠(act i).2.1:=fun q hq=>by obtain ⟨y,hy,rfl⟩:=List.mem_map.1 hq; exact hk y hy
    refine go false 0 O L td ro ha hbr hp ia (zcN hq).symm rfl fun b y hy=>?_
    rcases hy with ⟨_,e1,e2⟩ | ⟨rfl,rfl,_⟩
    · exact absurd e1 (hq y e2)
    · exact ⟨rfl,rfl⟩
  · subst hL
    have em:(u++p::ws).map (·.2)=u.map (·.2)++p.2::ws.map (·.2):=by rw [List.map_append,List.map_cons]
    have nin:∀ j,j<4→∀ y∈u++p::ws,y.1≠j:=fun j hj y hy=>by have:=(ia y hy).1; omega
    refine go true p.2.2 O1 (p::(u++ws)) td ((fr' 0 (by omega) (nin 0 (by omega))).trans ro) ha' (hbr.same (fr' 3 (by omega) (nin 3 (by omega)))) (jO hp (fr' _ (by omega) dj) (Nat.le_refl _) (Nat.le_refl _)) (fun y hy=>ia y ?_) ?_ (by simp only [List.length_append,List.length_cons]; omega) fun b y hy=>?_
    · rcases List.mem_cons.1 hy with rfl | hy
      · simp
      · rcases List.mem_append.1 hy with b | b
        · exact List.mem_append_left _ b
        · exact List.mem_append_right _ (List.mem_cons_of_mem _ b)
    · rw [em] at hnd ⊢
      rw [zbj hpk hnd,List.map_cons,List.map_append]
    · have hpm:p.2∈(u++p::ws).map (·.2):=by rw [em]; simp
      rcases hy with ⟨rfl,e1,e2⟩ | ⟨rfl,rfl,e⟩
      · refine ⟨rfl,?_⟩
        rw [zes hnd p.2 hpm y e2 (by rw [e1]; exact hpk.symm)]
      · exact absurd hpk (e _ hpm)
theorem fin (h:InvP O N act off cap c i L sl)(h1:i<1000):GQ (AM.mk (enF 12 [.ptr 2 0 0]) [(F1)] ⟨O,N,G⟩):=by
 have hb:=h.hb
 have hN:=h.hN
 refine zgI h.a (by omega) (fun x hx=>(h.ia x hx).2) (by omega) fun O1 N1 ks1 td1 hN1 fr1 kv1=>?_
 refine (Obl.goal mix (K:=GQ) (fun _ h=>h) (cast (q_f2 (fun v _=>R0 v) 0 3 [] td1 ks1 N1 O1 G GQ).symm ?_))
 have h1:=h.same hN1 fr1
 refine zeL h1.b (by omega) h1.p (by rw [List.length_map]; omega) fun O2 N2 ks2 td2 hN2 fr2 kv2=>?_
 have kv1':KV O2 N N1 (L.map (·.2.1)) ks1:=kv1.to (fun j _ hj=>fr2 j hj) (Nat.le_refl _)
 rw [List.map_map] at kv2
 have kv2':KV O2 N1 N2 (L.map (·.2.1)) ks2:=kv2
 rcases kv1' with ⟨rfl,z1⟩ | ⟨ri,q,rfl,g1,g2,g3,gr1⟩
 · have l3:L=[]:=List.map_eq_nil_iff.1 z1
   subst l3
   rcases kv2' with ⟨rfl,z2⟩ | ⟨rj,qj,rfl,_,_,g4,gr4⟩
   rotate_left
   · exact absurd g4 (by simp)
   exact (Obl.goal mix (K:=GQ) (fun _ h=>h) (cast (q_fn R0 td2 N2 O2 G GQ).symm ⟨jh,rfl⟩))
 · rcases kv2' with ⟨rfl,z2⟩ | ⟨rj,qj,rfl,g5,g6,g4,gr4⟩
   · rw [List.map_eq_nil_iff.1 z2] at g3
     exact absurd g3 (by simp)
   obtain rfl:qj=q:=by omega
   have hlen:L.length=qj+1:=by rw [List.length_map] at g3; omega
   refine (Obl.goal mix (K:=GQ) (fun _ h=>h) (cast (q_f3 (fun v _=>R0 v) 0 3 [] ri qj (qj+1) rj qj td2 N2 O2 G GQ).symm ?_))
   refine zfW gr1 gr4 (Nat.le_refl _) (Nat.le_refl _) (fun _ _=>rfl) (by omega) fun td3=>?_
   exact (Obl.goal mix (K:=GQ) (fun _ h=>h) (cast (q_f4 R0 ri qj (qj+1) rj qj td3 N2 O2 G GQ).symm ⟨jh,rfl⟩))
theorem loopP (hl:len≤cap):∀ (d i:Nat) (O:T AObj) (N:Nat) (L:List Ent) (sl:AV),i+d=200→InvP O N act off cap c i L sl→GQ (WP off len cap ((i:Nat):Int) [] O N G)
 | d,i,O,N,L,sl,hd,h=>by
  by_cases hi:i<len
  rotate_left
  · exact (Obl.goal mix (K:=GQ) (fun _ h=>h) (cast (q_e1 (fun v _=>R0 v) 0 3 [] off len cap ((i:Nat):Int) N O G GQ).symm ⟨decide_eq_false (by omega),fin h (by omega)⟩))
  cases d with
  | zero=>exact (Obl.goal mix (K:=GQ) (fun _ h=>h) (cast (q_e2 (fun v _=>R0 v) 0 3 [] off len cap ((i:Nat):Int) N O G GQ).symm ⟨decide_eq_true (by omega),decide_eq_false (by omega),fin h (by omega)⟩))
  | succ d=>exact round h hi hl (by omega) fun O' N' L' sl' h'=>loopP hl d (i+1) O' N' L' sl' (by omega) h'
end Go.Proofs.Ytcdpmiebmhjmpaa.lrp
end
