import Derived.Test.YtjddelgojkgnaaaP00
import Derived.Test.YtjddelgojkgnaaaP01
import Derived.Test.YtjddelgojkgnaaaP02
import Derived.Test.YtjddelgojkgnaaaP03
import Derived.Test.YtjddelgojkgnaaaP04
import Derived.Test.YtjddelgojkgnaaaP05
section
set_option maxRecDepth 100000
set_option linter.unusedVariables false
namespace Go.Proofs.Ytjddelgojkgnaaa.gx
open Go Ev
noncomputable def WK (off len cp:Nat) (i:Int) (rest:List AFrame) (O:T AObj) (N:Nat) (G:T (T AV)):AM:=⟨⟨3,174,(.node (.node (.node (.node .leaf (some (.ptr 5 0 0)) .leaf) none .leaf) (some (.slc 0 0 off len cp)) (.node (.node .leaf (some (.int .i64 i)) .leaf) (some (.ptr 2 0 0)) .leaf)) none (.node (.node (.node .leaf (some (.fn (Fn.func 7) [] [])) .leaf) none .leaf) none (.node .leaf (some (.ptr 4 0 0)) .leaf))),   [.code (cd P 3 [1,1,1,1,0,1,0,0]),.inLoop (cd P 3 [1,1,1,1,0,1,0,0]),.inBlock 0,.code (cd P 3 [1,1,1,1,1])],[],.run,CallKind.normal,none⟩,
 rest,
 ⟨O,N,G⟩⟩
noncomputable def zjT (N:Nat) (off:Nat) (len:Nat) (cp:Nat) (i:Int) (kk:Int) (kv:Int) (gt:Bool):AFrame:=⟨3,174,(.node (.node (.node (.node (.node (.node (.node .leaf (some (.int .i64 kv)) .leaf) (some (.int .i64 (↑len:Int))) .leaf) none (.node .leaf (some (.int .i64 (kk.tmod (1000:Int)))) .leaf)) (some (.ptr 5 0 0)) (.node (.node .leaf (some (.slc 0 0 off len cp)) .leaf) none (.node .leaf (some (.ptr 2 0 0)) .leaf))) none (.node (.node (.node .leaf (some (.bool (decide (i<(100:Int))))) .leaf) none (.node .leaf (some (.ptr 0 0 (off+i.toNat*3))) .leaf)) none (.node (.node .leaf (some (.int .i64 kk)) .leaf) none (.node .leaf (some (.slc 0 0 off len cp)) .leaf)))) (some (.slc 0 0 off len cp)) (.node (.node (.node (.node .leaf (some (.bool true)) .leaf) none (.node .leaf (some (.slc 0 0 off len cp)) .leaf)) (some (.int .i64 i)) (.node (.node .leaf (some (.ptr 0 0 (off+i.toNat*3))) .leaf) none (.node .leaf (some (.int .i64 (IntKind.i64.wrap ((0:Int) - kk.tmod (1000:Int))))) .leaf))) (some (.ptr 2 0 0)) (.node (.node .leaf none (.node .leaf (some (.bool gt)) .leaf)) none (.node (.node .leaf (some (.int .i64 (kk.tmod (1000:Int)))) .leaf) (some (.int .i64 i)) (.node .leaf (some (.ptr 0 0 (off+i.toNat*3))) .leaf))))) none (.node (.node (.node (.node (.node (.node .leaf (some (.slc N 0 0 1 1)) .leaf) (some (.bool (decide (i<(↑len:Int))))) .leaf) none (.node .leaf (some (.int .i64 (IntKind.i64.wrap ((0:Int) - kk.tmod (1000:Int))))) .leaf)) (some (.fn (Fn.func (7:FuncId)) [] [])) (.node (.node .leaf (some (.int .i64 i)) .leaf) none (.node .leaf (some (.fn (Fn.func (7:FuncId)) [] [])) .leaf))) none (.node (.node (.node .leaf (some (.bool true)) .leaf) none (.node .leaf (some (.ptr 0 0 (off+i.toNat*3))) .leaf)) none (.node (.node .leaf (some (.int .i64 (kk.tmod (1000:Int)))) .leaf) none (.node .leaf (some (.int .i64 i)) .leaf)))) none (.node (.node (.node (.node .leaf (some (.int .i64 i)) .leaf) none (.node .leaf (some (.int .i64 i)) .leaf)) (some (.int .i64 (IntKind.i64.wrap ((0:Int) - kk.tmod (1000:Int))))) (.node (.node .leaf (some (.ptr 0 0 (off+i.toNat*3+1))) .leaf) none .leaf)) (some (.ptr 4 0 0)) (.node (.node .leaf none (.node .leaf (some (.bool true)) .leaf)) none (.node (.node .leaf (some (.bool true)) .leaf) (some (.slc 0 0 off len cp)) (.node .leaf (some (.ptr 0 0 (off+i.toNat*3+2))) .leaf)))))),   [.drw (rg P 3 [1,1,1,1,0,1,0,0,1,0,0,1,1,0,1,0,0]) [3,10] [9,8,7,6,5,4,2,1,0],.code (cd P 3 [1,1,1,1,0,1,0,0,1,0,0,1,1,0,1,0,1]),.code (cd P 3 [1,1,1,1,0,1,0,0,1,0,0,1,1,1]),.inBlock 1,.code (cd P 3 [1,1,1,1,0,1,0,0,1,1]),.inLoop (cd P (3:FuncId) [1,1,1,1,0,1,0,0]),.inBlock 0,.code (cd P (3:FuncId) [1,1,1,1,1])],[],.run,CallKind.normal,none⟩
noncomputable def zjM (off:Nat) (len:Nat) (cp:Nat) (i:Int) (kk:Int) (gt:Bool):AFrame:=⟨3,174,(.node (.node (.node (.node (.node (.node .leaf (some (.int .i64 (↑len:Int))) .leaf) none (.node .leaf (some (.int .i64 (kk.tmod (1000:Int)))) .leaf)) (some (.ptr 5 0 0)) (.node (.node .leaf (some (.slc 0 0 off len cp)) .leaf) none .leaf)) none (.node (.node (.node .leaf (some (.bool (decide (i<(100:Int))))) .leaf) none (.node .leaf (some (.ptr 0 0 (off+i.toNat*3))) .leaf)) none (.node (.node .leaf (some (.int .i64 kk)) .leaf) none .leaf))) (some (.slc 0 0 off len cp)) (.node (.node (.node (.node .leaf (some (.bool true)) .leaf) none (.node .leaf (some (.slc 0 0 off len cp)) .leaf)) (some (.int .i64 i)) (.node (.node .leaf (some (.ptr 0 0 (off+i.toNat*3))) .leaf) none (.node (.node .leaf (some (.fn (Fn.func (7:FuncId)) [] [])) .leaf) none .leaf))) (some (.ptr 2 0 0)) (.node (.node .leaf none (.node .leaf (some (.bool gt)) .leaf)) none (.node (.node .leaf (some (.int .i64 (kk.tmod (1000:Int)))) .leaf) (some (.int .i64 i)) .leaf)))) none (.node (.node (.node (.node (.node .leaf (some (.bool (decide (i<(↑len:Int))))) .leaf) none (.node .leaf (some (.int .i64 (IntKind.i64.wrap ((0:Int) - kk.tmod (1000:Int))))) .leaf)) (some (.fn (Fn.func (7:FuncId)) [] [])) (.node (.node .leaf (some (.int .i64 i)) .leaf) none (.node (.node .leaf (some (.ptr 2 0 0)) .leaf) none .leaf))) none (.node (.node (.node .leaf (some (.bool true)) .leaf) none (.node .leaf (some (.ptr 0 0 (off+i.toNat*3))) .leaf)) none (.node (.node .leaf (some (.int .i64 (kk.tmod (1000:Int)))) .leaf) none .leaf))) none (.node (.node (.node (.node .leaf (some (.int .i64 i)) .leaf) none (.node .leaf (some (.int .i64 i)) .leaf)) (some (.int .i64 (IntKind.i64.wrap ((0:Int) - kk.tmod (1000:Int))))) (.node (.node .leaf (some (.ptr 0 0 (off+i.toNat*3+1))) .leaf) none (.node (.node .leaf (some (.int .i64 (IntKind.i64.wrap ((0:Int) - kk.tmod (1000:Int))))) .leaf) none .leaf))) (some (.ptr 4 0 0)) (.node (.node .leaf none (.node .leaf (some (.bool false)) .leaf)) none (.node (.node .leaf (some (.bool true)) .leaf) (some (.slc 0 0 off len cp)) .leaf))))),   [.ops (rg P 3 [1,1,1,1,0,1,0,0,1,0,0,1,1,1,0]).toList ((rg P 3 [1,1,1,1,0,1,0,0,1,0,0,1,1,1,0]).toList.drop 3),.code (cd P 3 [1,1,1,1,0,1,0,0,1,0,0,1,1,1,1]),.inBlock 1,.code (cd P 3 [1,1,1,1,0,1,0,0,1,1]),.inLoop (cd P (3:FuncId) [1,1,1,1,0,1,0,0]),.inBlock 0,.code (cd P (3:FuncId) [1,1,1,1,1])],[],.run,CallKind.normal,none⟩
noncomputable def zjz (N:Nat) (off:Nat) (len:Nat) (cp:Nat) (i:Int) (kk:Int) (kv:Int) (gt:Bool):AFrame:=⟨3,174,(.node (.node (.node (.node (.node (.node (.node .leaf (some (.int .i64 kv)) .leaf) (some (.int .i64 (↑len:Int))) .leaf) none .leaf) (some (.ptr 5 0 0)) (.node (.node .leaf (some (.slc 0 0 off len cp)) .leaf) none (.node .leaf (some (.ptr 2 0 0)) .leaf))) none (.node (.node (.node .leaf (some (.bool (decide (i<(100:Int))))) .leaf) none (.node .leaf (some (.ptr 0 0 (off+i.toNat*3))) .leaf)) none (.node (.node .leaf (some (.int .i64 kk)) .leaf) none (.node .leaf (some (.slc 0 0 off len cp)) .leaf)))) (some (.slc 0 0 off len cp)) (.node (.node (.node (.node .leaf (some (.bool true)) .leaf) none (.node .leaf (some (.slc 0 0 off len cp)) .leaf)) (some (.int .i64 i)) (.node (.node .leaf (some (.ptr 0 0 (off+i.toNat*3))) .leaf) none (.node .leaf (some (.int .i64 (kk.tmod (1000:Int)))) .leaf))) (some (.ptr 2 0 0)) (.node (.node .leaf none (.node .leaf (some (.bool gt)) .leaf)) none (.node (.node .leaf (some (.int .i64 (kk.tmod (1000:Int)))) .leaf) (some (.int .i64 i)) (.node .leaf (some (.ptr 0 0 (off+i.toNat*3))) .leaf))))) none (.node (.node (.node (.node (.node (.node .leaf (some (.slc N 0 0 1 1)) .leaf) (some (.bool (decide (i<(↑len:Int))))) .leaf) none .leaf) (some (.fn (Fn.func (7:FuncId)) [] [])) (.node (.node .leaf (some (.int .i64 i)) .leaf) none (.node .leaf (some (.fn (Fn.func (7:FuncId)) [] [])) .leaf))) none (.node (.node (.node .leaf (some (.bool true)) .leaf) none (.node .leaf (some (.ptr 0 0 (off+i.toNat*3))) .leaf)) none (.node (.node .leaf (some (.int .i64 (kk.tmod (1000:Int)))) .leaf) none (.node .leaf (some (.int .i64 i)) .leaf)))) none (.node (.node (.node (.node .leaf (some (.int .i64 i)) .leaf) none (.node .leaf (some (.int .i64 i)) .leaf)) (some (.int .i64 (kk.tmod (1000:Int)))) (.node (.node .leaf (some (.ptr 0 0 (off+i.toNat*3+1))) .leaf) none .leaf)) (some (.ptr 4 0 0)) (.node (.node .leaf none (.node .leaf (some (.bool true)) .leaf)) none (.node (.node .leaf (some (.bool false)) .leaf) (some (.slc 0 0 off len cp)) (.node .leaf (some (.ptr 0 0 (off+i.toNat*3+2))) .leaf)))))),   [.drw (rg P 3 [1,1,1,1,0,1,0,0,1,0,0,1,1,0,1,0,0]) [3,10] [9,8,7,6,5,4,2,1,0],.code (cd P 3 [1,1,1,1,0,1,0,0,1,0,0,1,1,0,1,0,1]),.code (cd P 3 [1,1,1,1,0,1,0,0,1,0,0,1,1,1]),.inBlock 1,.code (cd P 3 [1,1,1,1,0,1,0,0,1,1]),.inLoop (cd P (3:FuncId) [1,1,1,1,0,1,0,0]),.inBlock 0,.code (cd P (3:FuncId) [1,1,1,1,1])],[],.run,CallKind.normal,none⟩
noncomputable def zjA (off:Nat) (len:Nat) (cp:Nat) (i:Int) (kk:Int) (gt:Bool):AFrame:=⟨3,174,(.node (.node (.node (.node (.node (.node .leaf (some (.int .i64 (↑len:Int))) .leaf) none .leaf) (some (.ptr 5 0 0)) (.node (.node .leaf (some (.slc 0 0 off len cp)) .leaf) none .leaf)) none (.node (.node (.node .leaf (some (.bool (decide (i<(100:Int))))) .leaf) none (.node .leaf (some (.ptr 0 0 (off+i.toNat*3))) .leaf)) none (.node (.node .leaf (some (.int .i64 kk)) .leaf) none .leaf))) (some (.slc 0 0 off len cp)) (.node (.node (.node (.node .leaf (some (.bool true)) .leaf) none (.node .leaf (some (.slc 0 0 off len cp)) .leaf)) (some (.int .i64 i)) (.node (.node .leaf (some (.ptr 0 0 (off+i.toNat*3))) .leaf) none (.node (.node .leaf (some (.fn (Fn.func (7:FuncId)) [] [])) .leaf) none .leaf))) (some (.ptr 2 0 0)) (.node (.node .leaf none (.node .leaf (some (.bool gt)) .leaf)) none (.node (.node .leaf (some (.int .i64 (kk.tmod (1000:Int)))) .leaf) (some (.int .i64 i)) .leaf)))) none (.node (.node (.node (.node (.node .leaf (some (.bool (decide (i<(↑len:Int))))) .leaf) none .leaf) (some (.fn (Fn.func (7:FuncId)) [] [])) (.node (.node .leaf (some (.int .i64 i)) .leaf) none (.node (.node .leaf (some (.ptr 2 0 0)) .leaf) none .leaf))) none (.node (.node (.node .leaf (some (.bool true)) .leaf) none (.node .leaf (some (.ptr 0 0 (off+i.toNat*3))) .leaf)) none (.node (.node .leaf (some (.int .i64 (kk.tmod (1000:Int)))) .leaf) none .leaf))) none (.node (.node (.node (.node .leaf (some (.int .i64 i)) .leaf) none (.node .leaf (some (.int .i64 i)) .leaf)) (some (.int .i64 (kk.tmod (1000:Int)))) (.node (.node .leaf (some (.ptr 0 0 (off+i.toNat*3+1))) .leaf) none (.node (.node .leaf (some (.int .i64 (kk.tmod (1000:Int)))) .leaf) none .leaf))) (some (.ptr 4 0 0)) (.node (.node .leaf none (.node .leaf (some (.bool false)) .leaf)) none (.node (.node .leaf (some (.bool false)) .leaf) (some (.slc 0 0 off len cp)) .leaf))))),   [.ops (rg P 3 [1,1,1,1,0,1,0,0,1,0,0,1,1,1,0]).toList ((rg P 3 [1,1,1,1,0,1,0,0,1,0,0,1,1,1,0]).toList.drop 3),.code (cd P 3 [1,1,1,1,0,1,0,0,1,0,0,1,1,1,1]),.inBlock 1,.code (cd P 3 [1,1,1,1,0,1,0,0,1,1]),.inLoop (cd P (3:FuncId) [1,1,1,1,0,1,0,0]),.inBlock 0,.code (cd P (3:FuncId) [1,1,1,1,1])],[],.run,CallKind.normal,none⟩
noncomputable def zc8 (off:Nat) (len:Nat) (cp:Nat) (i:Int) (kk:Int) (kv:Int) (gt:Bool) (nm7:List UInt8) (Nc:Nat):AFrame:=⟨3,174,(.node (.node (.node (.node (.node (.node (.node .leaf (some (.int .i64 kv)) .leaf) (some (.int .i64 (↑len:Int))) .leaf) none (.node .leaf (some (.int .i64 (kk.tmod (1000:Int)))) .leaf)) (some (.ptr 5 0 0)) (.node (.node .leaf (some (.slc 0 0 off len cp)) .leaf) none (.node .leaf (some (.ptr 2 0 0)) .leaf))) none (.node (.node (.node .leaf (some (.bool (decide (i<(100:Int))))) .leaf) none (.node .leaf (some (.ptr 0 0 (off+i.toNat*3))) .leaf)) none (.node (.node .leaf (some (.int .i64 kk)) .leaf) none (.node .leaf (some (.slc 0 0 off len cp)) .leaf)))) (some (.slc 0 0 off len cp)) (.node (.node (.node (.node .leaf (some (.bool true)) .leaf) none (.node .leaf (some (.slc 0 0 off len cp)) .leaf)) (some (.int .i64 i)) (.node (.node .leaf (some (.ptr 0 0 (off+i.toNat*3))) .leaf) none (.node .leaf (some (.int .i64 (IntKind.i64.wrap ((0:Int) - kk.tmod (1000:Int))))) .leaf))) (some (.ptr 2 0 0)) (.node (.node .leaf none (.node .leaf (some (.bool gt)) .leaf)) none (.node (.node .leaf (some (.int .i64 (kk.tmod (1000:Int)))) .leaf) (some (.int .i64 i)) (.node .leaf (some (.ptr 0 0 (off+i.toNat*3))) .leaf))))) none (.node (.node (.node (.node (.node (.node .leaf (some (.slc Nc 0 0 1 1)) .leaf) (some (.bool (decide (i<(↑len:Int))))) .leaf) none (.node .leaf (some (.int .i64 (IntKind.i64.wrap ((0:Int) - kk.tmod (1000:Int))))) .leaf)) (some (.fn (Fn.func (7:FuncId)) [] [])) (.node (.node .leaf (some (.int .i64 i)) .leaf) none (.node .leaf (some (.fn (Fn.func (7:FuncId)) [] [])) .leaf))) none (.node (.node (.node .leaf (some (.bool true)) .leaf) none (.node .leaf (some (.ptr 0 0 (off+i.toNat*3))) .leaf)) none (.node (.node .leaf (some (.int .i64 (kk.tmod (1000:Int)))) .leaf) none (.node .leaf (some (.int .i64 i)) .leaf)))) none (.node (.node (.node (.node .leaf (some (.int .i64 i)) .leaf) none (.node .leaf (some (.int .i64 i)) .leaf)) (some (.int .i64 (IntKind.i64.wrap ((0:Int) - kk.tmod (1000:Int))))) (.node (.node .leaf (some (.ptr 0 0 (off+i.toNat*3+1))) .leaf) none (.node .leaf (some (.str nm7)) .leaf))) (some (.ptr 4 0 0)) (.node (.node .leaf none (.node .leaf (some (.bool true)) .leaf)) none (.node (.node .leaf (some (.bool true)) .leaf) (some (.slc 0 0 off len cp)) (.node .leaf (some (.ptr 0 0 (off+i.toNat*3+2))) .leaf)))))),   [.drw (rg P (3:FuncId) [1,1,1,1,0,1,0,0,1,0,0,1,1,0,1,0,0]) [10] [3,9,8,7,6,5,4,2,1,0],.code (cd P (3:FuncId) [1,1,1,1,0,1,0,0,1,0,0,1,1,0,1,0,1]),.code (cd P (3:FuncId) [1,1,1,1,0,1,0,0,1,0,0,1,1,1]),.inBlock 1,.code (cd P (3:FuncId) [1,1,1,1,0,1,0,0,1,1]),.inLoop (cd P (3:FuncId) [1,1,1,1,0,1,0,0]),.inBlock 0,.code (cd P (3:FuncId) [1,1,1,1,1])],[],.run,CallKind.normal,none⟩
noncomputable def zdJ (off:Nat) (len:Nat) (cp:Nat) (i:Int) (kk:Int) (gt:Bool) (nm7:List UInt8):AFrame:=⟨3,174,(.node (.node (.node (.node (.node (.node .leaf (some (.int .i64 (↑len:Int))) .leaf) none (.node .leaf (some (.int .i64 (kk.tmod (1000:Int)))) .leaf)) (some (.ptr 5 0 0)) (.node (.node .leaf (some (.slc 0 0 off len cp)) .leaf) none .leaf)) none (.node (.node (.node .leaf (some (.bool (decide (i<(100:Int))))) .leaf) none (.node .leaf (some (.ptr 0 0 (off+i.toNat*3))) .leaf)) none (.node (.node .leaf (some (.int .i64 kk)) .leaf) none (.node (.node .leaf (some (.str nm7)) .leaf) none .leaf)))) (some (.slc 0 0 off len cp)) (.node (.node (.node (.node .leaf (some (.bool true)) .leaf) none (.node .leaf (some (.slc 0 0 off len cp)) .leaf)) (some (.int .i64 i)) (.node (.node .leaf (some (.ptr 0 0 (off+i.toNat*3))) .leaf) none (.node (.node .leaf (some (.fn (Fn.func (7:FuncId)) [] [])) .leaf) none .leaf))) (some (.ptr 2 0 0)) (.node (.node .leaf none (.node .leaf (some (.bool gt)) .leaf)) none (.node (.node .leaf (some (.int .i64 (kk.tmod (1000:Int)))) .leaf) (some (.int .i64 i)) .leaf)))) none (.node (.node (.node (.node (.node .leaf (some (.bool (decide (i<(↑len:Int))))) .leaf) none (.node .leaf (some (.int .i64 (IntKind.i64.wrap ((0:Int) - kk.tmod (1000:Int))))) .leaf)) (some (.fn (Fn.func (7:FuncId)) [] [])) (.node (.node .leaf (some (.int .i64 i)) .leaf) none (.node (.node .leaf (some (.ptr 2 0 0)) .leaf) none .leaf))) none (.node (.node (.node .leaf (some (.bool true)) .leaf) none (.node .leaf (some (.ptr 0 0 (off+i.toNat*3))) .leaf)) none (.node (.node .leaf (some (.int .i64 (kk.tmod (1000:Int)))) .leaf) none .leaf))) none (.node (.node (.node (.node .leaf (some (.int .i64 i)) .leaf) none (.node .leaf (some (.int .i64 i)) .leaf)) (some (.int .i64 (IntKind.i64.wrap ((0:Int) - kk.tmod (1000:Int))))) (.node (.node .leaf (some (.ptr 0 0 (off+i.toNat*3+1))) .leaf) none (.node (.node .leaf (some (.int .i64 (IntKind.i64.wrap ((0:Int) - kk.tmod (1000:Int))))) .leaf) none .leaf))) (some (.ptr 4 0 0)) (.node (.node .leaf none (.node .leaf (some (.bool false)) .leaf)) none (.node (.node .leaf (some (.bool true)) .leaf) (some (.slc 0 0 off len cp)) .leaf))))),   [.ops (rg P (3:FuncId) [1,1,1,1,0,1,0,0,1,0,0,1,1,1,0]).toList ((rg P (3:FuncId) [1,1,1,1,0,1,0,0,1,0,0,1,1,1,0]).toList.drop 4),.code (cd P (3:FuncId) [1,1,1,1,0,1,0,0,1,0,0,1,1,1,1]),.inBlock 1,.code (cd P (3:FuncId) [1,1,1,1,0,1,0,0,1,1]),.inLoop (cd P (3:FuncId) [1,1,1,1,0,1,0,0]),.inBlock 0,.code (cd P (3:FuncId) [1,1,1,1,1])],[],.run,CallKind.normal,none⟩
noncomputable def zdr (off:Nat) (len:Nat) (cp:Nat) (i:Int) (kk:Int) (kv:Int) (gt:Bool) (nm7:List UInt8) (Nc:Nat):AFrame:=⟨3,174,(.node (.node (.node (.node (.node (.node (.node .leaf (some (.int .i64 kv)) .leaf) (some (.int .i64 (↑len:Int))) .leaf) none .leaf) (some (.ptr 5 0 0)) (.node (.node .leaf (some (.slc 0 0 off len cp)) .leaf) none (.node .leaf (some (.ptr 2 0 0)) .leaf))) none (.node (.node (.node .leaf (some (.bool (decide (i<(100:Int))))) .leaf) none (.node .leaf (some (.ptr 0 0 (off+i.toNat*3))) .leaf)) none (.node (.node .leaf (some (.int .i64 kk)) .leaf) none (.node .leaf (some (.slc 0 0 off len cp)) .leaf)))) (some (.slc 0 0 off len cp)) (.node (.node (.node (.node .leaf (some (.bool true)) .leaf) none (.node .leaf (some (.slc 0 0 off len cp)) .leaf)) (some (.int .i64 i)) (.node (.node .leaf (some (.ptr 0 0 (off+i.toNat*3))) .leaf) none (.node .leaf (some (.int .i64 (kk.tmod (1000:Int)))) .leaf))) (some (.ptr 2 0 0)) (.node (.node .leaf none (.node .leaf (some (.bool gt)) .leaf)) none (.node (.node .leaf (some (.int .i64 (kk.tmod (1000:Int)))) .leaf) (some (.int .i64 i)) (.node .leaf (some (.ptr 0 0 (off+i.toNat*3))) .leaf))))) none (.node (.node (.node (.node (.node (.node .leaf (some (.slc Nc 0 0 1 1)) .leaf) (some (.bool (decide (i<(↑len:Int))))) .leaf) none .leaf) (some (.fn (Fn.func (7:FuncId)) [] [])) (.node (.node .leaf (some (.int .i64 i)) .leaf) none (.node .leaf (some (.fn (Fn.func (7:FuncId)) [] [])) .leaf))) none (.node (.node (.node .leaf (some (.bool true)) .leaf) none (.node .leaf (some (.ptr 0 0 (off+i.toNat*3))) .leaf)) none (.node (.node .leaf (some (.int .i64 (kk.tmod (1000:Int)))) .leaf) none (.node .leaf (some (.int .i64 i)) .leaf)))) none (.node (.node (.node (.node .leaf (some (.int .i64 i)) .leaf) none (.node .leaf (some (.int .i64 i)) .leaf)) (some (.int .i64 (kk.tmod (1000:Int)))) (.node (.node .leaf (some (.ptr 0 0 (off+i.toNat*3+1))) .leaf) none (.node .leaf (some (.str nm7)) .leaf))) (some (.ptr 4 0 0)) (.node (.node .leaf none (.node .leaf (some (.bool true)) .leaf)) none (.node (.node .leaf (some (.bool false)) .leaf) (some (.slc 0 0 off len cp)) (.node .leaf (some (.ptr 0 0 (off+i.toNat*3+2))) .leaf)))))),   [.drw (rg P (3:FuncId) [1,1,1,1,0,1,0,0,1,0,0,1,1,0,1,0,0]) [10] [3,9,8,7,6,5,4,2,1,0],.code (cd P (3:FuncId) [1,1,1,1,0,1,0,0,1,0,0,1,1,0,1,0,1]),.code (cd P (3:FuncId) [1,1,1,1,0,1,0,0,1,0,0,1,1,1]),.inBlock 1,.code (cd P (3:FuncId) [1,1,1,1,0,1,0,0,1,1]),.inLoop (cd P (3:FuncId) [1,1,1,1,0,1,0,0]),.inBlock 0,.code (cd P (3:FuncId) [1,1,1,1,1])],[],.run,CallKind.normal,none⟩
noncomputable def zdV (off:Nat) (len:Nat) (cp:Nat) (i:Int) (kk:Int) (gt:Bool) (nm7:List UInt8):AFrame:=⟨3,174,(.node (.node (.node (.node (.node (.node .leaf (some (.int .i64 (↑len:Int))) .leaf) none .leaf) (some (.ptr 5 0 0)) (.node (.node .leaf (some (.slc 0 0 off len cp)) .leaf) none .leaf)) none (.node (.node (.node .leaf (some (.bool (decide (i<(100:Int))))) .leaf) none (.node .leaf (some (.ptr 0 0 (off+i.toNat*3))) .leaf)) none (.node (.node .leaf (some (.int .i64 kk)) .leaf) none (.node (.node .leaf (some (.str nm7)) .leaf) none .leaf)))) (some (.slc 0 0 off len cp)) (.node (.node (.node (.node .leaf (some (.bool true)) .leaf) none (.node .leaf (some (.slc 0 0 off len cp)) .leaf)) (some (.int .i64 i)) (.node (.node .leaf (some (.ptr 0 0 (off+i.toNat*3))) .leaf) none (.node (.node .leaf (some (.fn (Fn.func (7:FuncId)) [] [])) .leaf) none .leaf))) (some (.ptr 2 0 0)) (.node (.node .leaf none (.node .leaf (some (.bool gt)) .leaf)) none (.node (.node .leaf (some (.int .i64 (kk.tmod (1000:Int)))) .leaf) (some (.int .i64 i)) .leaf)))) none (.node (.node (.node (.node (.node .leaf (some (.bool (decide (i<(↑len:Int))))) .leaf) none .leaf) (some (.fn (Fn.func (7:FuncId)) [] [])) (.node (.node .leaf (some (.int .i64 i)) .leaf) none (.node (.node .leaf (some (.ptr 2 0 0)) .leaf) none .leaf))) none (.node (.node (.node .leaf (some (.bool true)) .leaf) none (.node .leaf (some (.ptr 0 0 (off+i.toNat*3))) .leaf)) none (.node (.node .leaf (some (.int .i64 (kk.tmod (1000:Int)))) .leaf) none .leaf))) none (.node (.node (.node (.node .leaf (some (.int .i64 i)) .leaf) none (.node .leaf (some (.int .i64 i)) .leaf)) (some (.int .i64 (kk.tmod (1000:Int)))) (.node (.node .leaf (some (.ptr 0 0 (off+i.toNat*3+1))) .leaf) none (.node (.node .leaf (some (.int .i64 (kk.tmod (1000:Int)))) .leaf) none .leaf))) (some (.ptr 4 0 0)) (.node (.node .leaf none (.node .leaf (some (.bool false)) .leaf)) none (.node (.node .leaf (some (.bool false)) .leaf) (some (.slc 0 0 off len cp)) .leaf))))),   [.ops (rg P (3:FuncId) [1,1,1,1,0,1,0,0,1,0,0,1,1,1,0]).toList ((rg P (3:FuncId) [1,1,1,1,0,1,0,0,1,0,0,1,1,1,0]).toList.drop 4),.code (cd P (3:FuncId) [1,1,1,1,0,1,0,0,1,0,0,1,1,1,1]),.inBlock 1,.code (cd P (3:FuncId) [1,1,1,1,0,1,0,0,1,1]),.inLoop (cd P (3:FuncId) [1,1,1,1,0,1,0,0]),.inBlock 0,.code (cd P (3:FuncId) [1,1,1,1,1])],[],.run,CallKind.normal,none⟩
noncomputable def jB (off:Nat) (len:Nat) (cp:Nat) (i:Int) (kk:Int) (kv:Int) (gt:Bool) (nm7:List UInt8) (Nc:Nat):AFrame:=⟨3,174,(.node (.node (.node (.node (.node (.node (.node .leaf (some (.int .i64 kv)) .leaf) (some (.int .i64 (↑len:Int))) .leaf) none (.node .leaf (some (.int .i64 (kk.tmod (1000:Int)))) .leaf)) (some (.ptr 5 0 0)) (.node (.node (.node .leaf (some (.int .i64 i)) .leaf) (some (.slc 0 0 off len cp)) .leaf) none (.node .leaf (some (.ptr 2 0 0)) .leaf))) none (.node (.node (.node (.node .leaf (some (.int .i64 (IntKind.i64.wrap ((0:Int) - kk.tmod (1000:Int))))) .leaf) (some (.bool (decide (i<(100:Int))))) .leaf) none (.node .leaf (some (.ptr 0 0 (off+i.toNat*3))) .leaf)) none (.node (.node (.node .leaf (some (.int .i64 (kv.tmod (500:Int)))) .leaf) (some (.int .i64 kk)) .leaf) none (.node .leaf (some (.slc 0 0 off len cp)) .leaf)))) (some (.slc 0 0 off len cp)) (.node (.node (.node (.node (.node .leaf (some (.tup [])) .leaf) (some (.bool true)) .leaf) none (.node .leaf (some (.slc 0 0 off len cp)) .leaf)) (some (.int .i64 i)) (.node (.node (.node .leaf (some (.ptr 0 0 (off+i.toNat*3+2))) .leaf) (some (.ptr 0 0 (off+i.toNat*3))) .leaf) none (.node .leaf (some (.int .i64 (IntKind.i64.wrap ((0:Int) - kk.tmod (1000:Int))))) .leaf))) (some (.ptr 2 0 0)) (.node (.node (.node (.node .leaf (some (.fn (Fn.func (7:FuncId)) [] [])) .leaf) none .leaf) none (.node .leaf (some (.bool gt)) .leaf)) none (.node (.node .leaf (some (.int .i64 (kk.tmod (1000:Int)))) .leaf) (some (.int .i64 i)) (.node .leaf (some (.ptr 0 0 (off+i.toNat*3))) .leaf))))) none (.node (.node (.node (.node (.node (.node .leaf (some (.slc Nc 0 0 1 1)) .leaf) (some (.bool (decide (i<(↑len:Int))))) .leaf) none (.node .leaf (some (.int .i64 (IntKind.i64.wrap ((0:Int) - kk.tmod (1000:Int))))) .leaf)) (some (.fn (Fn.func (7:FuncId)) [] [])) (.node (.node (.node .leaf (some (.ptr 0 0 (off+i.toNat*3))) .leaf) (some (.int .i64 i)) .leaf) none (.node .leaf (some (.fn (Fn.func (7:FuncId)) [] [])) .leaf))) none (.node (.node (.node (.node .leaf (some (.agg [.str [UInt8.ofNat 107,UInt8.ofNat 101,UInt8.ofNat 121],.int .i64 (IntKind.i64.wrap ((0:Int) - kk.tmod (1000:Int)))])) .leaf) (some (.bool true)) .leaf) none (.node .leaf (some (.ptr 0 0 (off+i.toNat*3))) .leaf)) none (.node (.node (.node .leaf (some (.int .i64 (IntKind.i64.wrap (kv.tmod (500:Int)+(500:Int))))) .leaf) (some (.int .i64 (kk.tmod (1000:Int)))) .leaf) none (.node .leaf (some (.int .i64 i)) .leaf)))) none (.node (.node (.node (.node (.node .leaf (some (.ptr 4 0 0)) .leaf) (some (.int .i64 i)) .leaf) none (.node .leaf (some (.int .i64 i)) .leaf)) (some (.int .i64 (IntKind.i64.wrap ((0:Int) - kk.tmod (1000:Int))))) (.node (.node (.node .leaf (some (.int .i64 kv)) .leaf) (some (.ptr 0 0 (off+i.toNat*3+1))) .leaf) none (.node .leaf (some (.str nm7)) .leaf))) (some (.ptr 4 0 0)) (.node (.node (.node (.node .leaf (some (.slc 0 0 off len cp)) .leaf) none .leaf) none (.node .leaf (some (.bool true)) .leaf)) none (.node (.node .leaf (some (.bool true)) .leaf) (some (.slc 0 0 off len cp)) (.node .leaf (some (.ptr 0 0 (off+i.toNat*3+2))) .leaf)))))),   [.ops (rg P 3 [1,1,1,1,0,1,0,0,1,0,0,1,1,0,1,0,1,0]).toList ((rg P 3 [1,1,1,1,0,1,0,0,1,0,0,1,1,0,1,0,1,0]).toList.drop 11),.code (cd P 3 [1,1,1,1,0,1,0,0,1,0,0,1,1,0,1,0,1,1]),.code (cd P (3:FuncId) [1,1,1,1,0,1,0,0,1,0,0,1,1,1]),.inBlock 1,.code (cd P (3:FuncId) [1,1,1,1,0,1,0,0,1,1]),.inLoop (cd P (3:FuncId) [1,1,1,1,0,1,0,0]),.inBlock 0,.code (cd P (3:FuncId) [1,1,1,1,1])],[],.run,CallKind.normal,none⟩
noncomputable def jA (off:Nat) (len:Nat) (cp:Nat) (i:Int) (kk:Int) (gt:Bool) (bb:Bool) (sv:AV) (nm7:List UInt8):AFrame:=⟨3,174,(.node (.node (.node (.node (.node (.node .leaf (some (.int .i64 (↑len:Int))) .leaf) none (.node .leaf (some (.int .i64 (kk.tmod (1000:Int)))) .leaf)) (some (.ptr 5 0 0)) (.node (.node .leaf (some (.slc 0 0 off len cp)) .leaf) none (.node (.node .leaf (some (.tup [sv,.bool bb])) .leaf) none .leaf))) none (.node (.node (.node .leaf (some (.bool (decide (i<(100:Int))))) .leaf) none (.node .leaf (some (.ptr 0 0 (off+i.toNat*3))) .leaf)) (some sv) (.node (.node .leaf (some (.int .i64 kk)) .leaf) none (.node (.node .leaf (some (.str nm7)) .leaf) none .leaf)))) (some (.slc 0 0 off len cp)) (.node (.node (.node (.node .leaf (some (.bool true)) (.node .leaf (some (.int .i64 (IntKind.i64.wrap ((0:Int) - kk.tmod (1000:Int))))) .leaf)) none (.node .leaf (some (.slc 0 0 off len cp)) .leaf)) (some (.int .i64 i)) (.node (.node .leaf (some (.ptr 0 0 (off+i.toNat*3))) .leaf) none (.node (.node .leaf (some (.fn (Fn.func (7:FuncId)) [] [])) .leaf) none .leaf))) (some (.ptr 2 0 0)) (.node (.node .leaf none (.node .leaf (some (.bool gt)) .leaf)) none (.node (.node .leaf (some (.int .i64 (kk.tmod (1000:Int)))) .leaf) (some (.int .i64 i)) (.node (.node .leaf (some sv) .leaf) none .leaf))))) none (.node (.node (.node (.node (.node .leaf (some (.bool (decide (i<(↑len:Int))))) (.node .leaf (some (.ptr 4 0 0)) .leaf)) none (.node .leaf (some (.int .i64 (IntKind.i64.wrap ((0:Int) - kk.tmod (1000:Int))))) .leaf)) (some (.fn (Fn.func (7:FuncId)) [] [])) (.node (.node .leaf (some (.int .i64 i)) .leaf) none (.node (.node .leaf (some (.ptr 2 0 0)) .leaf) none .leaf))) none (.node (.node (.node .leaf (some (.bool true)) .leaf) none (.node .leaf (some (.ptr 0 0 (off+i.toNat*3))) .leaf)) (some (.bool bb)) (.node (.node .leaf (some (.int .i64 (kk.tmod (1000:Int)))) .leaf) none (.node (.node .leaf (some (.tup [sv,.bool bb])) .leaf) none .leaf)))) none (.node (.node (.node (.node .leaf (some (.int .i64 i)) (.node .leaf (some (.agg [.str [UInt8.ofNat 107,UInt8.ofNat 101,UInt8.ofNat 121],.int .i64 (IntKind.i64.wrap ((0:Int) - kk.tmod (1000:Int)))])) .leaf)) none (.node .leaf (some (.int .i64 i)) .leaf)) (some (.int .i64 (IntKind.i64.wrap ((0:Int) - kk.tmod (1000:Int))))) (.node (.node .leaf (some (.ptr 0 0 (off+i.toNat*3+1))) .leaf) none (.node (.node .leaf (some (.int .i64 (IntKind.i64.wrap ((0:Int) - kk.tmod (1000:Int))))) .leaf) none .leaf))) (some (.ptr 4 0 0)) (.node (.node .leaf none (.node .leaf (some (.bool false)) .leaf)) none (.node (.node .leaf (some (.bool true)) .leaf) (some (.slc 0 0 off len cp)) (.node (.node .leaf (some (.bool bb)) .leaf) none .leaf)))))),   [.ops (rg P 3 [1,1,1,1,0,1,0,0,1,0,0,1,1,1,1,0]).toList ((rg P 3 [1,1,1,1,0,1,0,0,1,0,0,1,1,1,1,0]).toList.drop 3),.code (cd P 3 [1,1,1,1,0,1,0,0,1,0,0,1,1,1,1,1]),.inBlock 1,.code (cd P (3:FuncId) [1,1,1,1,0,1,0,0,1,1]),.inLoop (cd P (3:FuncId) [1,1,1,1,0,1,0,0]),.inBlock 0,.code (cd P (3:FuncId) [1,1,1,1,1])],[],.run,CallKind.normal,none⟩
noncomputable def jz (off:Nat) (len:Nat) (cp:Nat) (i:Int) (kk:Int) (kv:Int) (gt:Bool) (nm7:List UInt8) (Nc:Nat):AFrame:=⟨3,174,(.node (.node (.node (.node (.node (.node (.node .leaf (some (.int .i64 kv)) .leaf) (some (.int .i64 (↑len:Int))) .leaf) none .leaf) (some (.ptr 5 0 0)) (.node (.node (.node .leaf (some (.int .i64 i)) .leaf) (some (.slc 0 0 off len cp)) .leaf) none (.node .leaf (some (.ptr 2 0 0)) .leaf))) none (.node (.node (.node (.node .leaf (some (.int .i64 (kk.tmod (1000:Int)))) .leaf) (some (.bool (decide (i<(100:Int))))) .leaf) none (.node .leaf (some (.ptr 0 0 (off+i.toNat*3))) .leaf)) none (.node (.node (.node .leaf (some (.int .i64 (kv.tmod (500:Int)))) .leaf) (some (.int .i64 kk)) .leaf) none (.node .leaf (some (.slc 0 0 off len cp)) .leaf)))) (some (.slc 0 0 off len cp)) (.node (.node (.node (.node (.node .leaf (some (.tup [])) .leaf) (some (.bool true)) .leaf) none (.node .leaf (some (.slc 0 0 off len cp)) .leaf)) (some (.int .i64 i)) (.node (.node (.node .leaf (some (.ptr 0 0 (off+i.toNat*3+2))) .leaf) (some (.ptr 0 0 (off+i.toNat*3))) .leaf) none (.node .leaf (some (.int .i64 (kk.tmod (1000:Int)))) .leaf))) (some (.ptr 2 0 0)) (.node (.node (.node (.node .leaf (some (.fn (Fn.func (7:FuncId)) [] [])) .leaf) none .leaf) none (.node .leaf (some (.bool gt)) .leaf)) none (.node (.node .leaf (some (.int .i64 (kk.tmod (1000:Int)))) .leaf) (some (.int .i64 i)) (.node .leaf (some (.ptr 0 0 (off+i.toNat*3))) .leaf))))) none (.node (.node (.node (.node (.node (.node .leaf (some (.slc Nc 0 0 1 1)) .leaf) (some (.bool (decide (i<(↑len:Int))))) .leaf) none .leaf) (some (.fn (Fn.func (7:FuncId)) [] [])) (.node (.node (.node .leaf (some (.ptr 0 0 (off+i.toNat*3))) .leaf) (some (.int .i64 i)) .leaf) none (.node .leaf (some (.fn (Fn.func (7:FuncId)) [] [])) .leaf))) none (.node (.node (.node (.node .leaf (some (.agg [.str [UInt8.ofNat 107,UInt8.ofNat 101,UInt8.ofNat 121],.int .i64 (kk.tmod (1000:Int))])) .leaf) (some (.bool true)) .leaf) none (.node .leaf (some (.ptr 0 0 (off+i.toNat*3))) .leaf)) none (.node (.node (.node .leaf (some (.int .i64 (IntKind.i64.wrap (kv.tmod (500:Int)+(500:Int))))) .leaf) (some (.int .i64 (kk.tmod (1000:Int)))) .leaf) none (.node .leaf (some (.int .i64 i)) .leaf)))) none (.node (.node (.node (.node (.node .leaf (some (.ptr 4 0 0)) .leaf) (some (.int .i64 i)) .leaf) none (.node .leaf (some (.int .i64 i)) .leaf)) (some (.int .i64 (kk.tmod (1000:Int)))) (.node (.node (.node .leaf (some (.int .i64 kv)) .leaf) (some (.ptr 0 0 (off+i.toNat*3+1))) .leaf) none (.node .leaf (some (.str nm7)) .leaf))) (some (.ptr 4 0 0)) (.node (.node (.node (.node .leaf (some (.slc 0 0 off len cp)) .leaf) none .leaf) none (.node .leaf (some (.bool true)) .leaf)) none (.node (.node .leaf (some (.bool false)) .leaf) (some (.slc 0 0 off len cp)) (.node .leaf (some (.ptr 0 0 (off+i.toNat*3+2))) .leaf)))))),   [.ops (rg P 3 [1,1,1,1,0,1,0,0,1,0,0,1,1,0,1,0,1,0]).toList ((rg P 3 [1,1,1,1,0,1,0,0,1,0,0,1,1,0,1,0,1,0]).toList.drop 11),.code (cd P 3 [1,1,1,1,0,1,0,0,1,0,0,1,1,0,1,0,1,1]),.code (cd P (3:FuncId) [1,1,1,1,0,1,0,0,1,0,0,1,1,1]),.inBlock 1,.code (cd P (3:FuncId) [1,1,1,1,0,1,0,0,1,1]),.inLoop (cd P (3:FuncId) [1,1,1,1,0,1,0,0]),.inBlock 0,.code (cd P (3:FuncId) [1,1,1,1,1])],[],.run,CallKind.normal,none⟩
noncomputable def jt (off:Nat) (len:Nat) (cp:Nat) (i:Int) (kk:Int) (gt:Bool) (bb:Bool) (sv:AV) (nm7:List UInt8):AFrame:=⟨3,174,(.node (.node (.node (.node (.node (.node .leaf (some (.int .i64 (↑len:Int))) .leaf) none .leaf) (some (.ptr 5 0 0)) (.node (.node .leaf (some (.slc 0 0 off len cp)) .leaf) none (.node (.node .leaf (some (.tup [sv,.bool bb])) .leaf) none .leaf))) none (.node (.node (.node .leaf (some (.bool (decide (i<(100:Int))))) .leaf) none (.node .leaf (some (.ptr 0 0 (off+i.toNat*3))) .leaf)) (some sv) (.node (.node .leaf (some (.int .i64 kk)) .leaf) none (.node (.node .leaf (some (.str nm7)) .leaf) none .leaf)))) (some (.slc 0 0 off len cp)) (.node (.node (.node (.node .leaf (some (.bool true)) (.node .leaf (some (.int .i64 (kk.tmod (1000:Int)))) .leaf)) none (.node .leaf (some (.slc 0 0 off len cp)) .leaf)) (some (.int .i64 i)) (.node (.node .leaf (some (.ptr 0 0 (off+i.toNat*3))) .leaf) none (.node (.node .leaf (some (.fn (Fn.func (7:FuncId)) [] [])) .leaf) none .leaf))) (some (.ptr 2 0 0)) (.node (.node .leaf none (.node .leaf (some (.bool gt)) .leaf)) none (.node (.node .leaf (some (.int .i64 (kk.tmod (1000:Int)))) .leaf) (some (.int .i64 i)) (.node (.node .leaf (some sv) .leaf) none .leaf))))) none (.node (.node (.node (.node (.node .leaf (some (.bool (decide (i<(↑len:Int))))) (.node .leaf (some (.ptr 4 0 0)) .leaf)) none .leaf) (some (.fn (Fn.func (7:FuncId)) [] [])) (.node (.node .leaf (some (.int .i64 i)) .leaf) none (.node (.node .leaf (some (.ptr 2 0 0)) .leaf) none .leaf))) none (.node (.node (.node .leaf (some (.bool true)) .leaf) none (.node .leaf (some (.ptr 0 0 (off+i.toNat*3))) .leaf)) (some (.bool bb)) (.node (.node .leaf (some (.int .i64 (kk.tmod (1000:Int)))) .leaf) none (.node (.node .leaf (some (.tup [sv,.bool bb])) .leaf) none .leaf)))) none (.node (.node (.node (.node .leaf (some (.int .i64 i)) (.node .leaf (some (.agg [.str [UInt8.ofNat 107,UInt8.ofNat 101,UInt8.ofNat 121],.int .i64 (kk.tmod (1000:Int))])) .leaf)) none (.node .leaf (some (.int .i64 i)) .leaf)) (some (.int .i64 (kk.tmod (1000:Int)))) (.node (.node .leaf (some (.ptr 0 0 (off+i.toNat*3+1))) .leaf) none (.node (.node .leaf (some (.int .i64 (kk.tmod (1000:Int)))) .leaf) none .leaf))) (some (.ptr 4 0 0)) (.node (.node .leaf none (.node .leaf (some (.bool false)) .leaf)) none (.node (.node .leaf (some (.bool false)) .leaf) (some (.slc 0 0 off len cp)) (.node (.node .leaf (some (.bool bb)) .leaf) none .leaf)))))),   [.ops (rg P 3 [1,1,1,1,0,1,0,0,1,0,0,1,1,1,1,0]).toList ((rg P 3 [1,1,1,1,0,1,0,0,1,0,0,1,1,1,1,0]).toList.drop 3),.code (cd P 3 [1,1,1,1,0,1,0,0,1,0,0,1,1,1,1,1]),.inBlock 1,.code (cd P (3:FuncId) [1,1,1,1,0,1,0,0,1,1]),.inLoop (cd P (3:FuncId) [1,1,1,1,0,1,0,0]),.inBlock 0,.code (cd P (3:FuncId) [1,1,1,1,1])],[],.run,CallKind.normal,none⟩
noncomputable def wh (off:Nat) (len:Nat) (cp:Nat) (i:Int) (kk:Int) (kv:Int) (gt:Bool) (nm7:List UInt8) (nm8:List UInt8) (Nc:Nat):AFrame:=⟨3,174,(.node (.node (.node (.node (.node (.node (.node .leaf (some (.int .i64 kv)) .leaf) (some (.int .i64 (↑len:Int))) .leaf) none (.node .leaf (some (.int .i64 (kk.tmod (1000:Int)))) .leaf)) (some (.ptr 5 0 0)) (.node (.node (.node .leaf (some (.int .i64 i)) .leaf) (some (.slc 0 0 off len cp)) .leaf) none (.node .leaf (some (.ptr 2 0 0)) .leaf))) none (.node (.node (.node (.node .leaf (some (.int .i64 (IntKind.i64.wrap ((0:Int) - kk.tmod (1000:Int))))) .leaf) (some (.bool (decide (i<(100:Int))))) .leaf) none (.node .leaf (some (.ptr 0 0 (off+i.toNat*3))) .leaf)) none (.node (.node (.node .leaf (some (.int .i64 (kv.tmod (500:Int)))) .leaf) (some (.int .i64 kk)) .leaf) none (.node .leaf (some (.slc 0 0 off len cp)) .leaf)))) (some (.slc 0 0 off len cp)) (.node (.node (.node (.node (.node .leaf (some (.tup [])) .leaf) (some (.bool true)) .leaf) none (.node .leaf (some (.slc 0 0 off len cp)) .leaf)) (some (.int .i64 i)) (.node (.node (.node .leaf (some (.ptr 0 0 (off+i.toNat*3+2))) .leaf) (some (.ptr 0 0 (off+i.toNat*3))) .leaf) none (.node .leaf (some (.int .i64 (IntKind.i64.wrap ((0:Int) - kk.tmod (1000:Int))))) .leaf))) (some (.ptr 2 0 0)) (.node (.node (.node (.node .leaf (some (.fn (Fn.func (7:FuncId)) [] [])) .leaf) none .leaf) none (.node .leaf (some (.bool gt)) .leaf)) none (.node (.node (.node .leaf (some (.str nm8)) .leaf) (some (.int .i64 (kk.tmod (1000:Int)))) .leaf) (some (.int .i64 i)) (.node .leaf (some (.ptr 0 0 (off+i.toNat*3))) .leaf))))) none (.node (.node (.node (.node (.node (.node .leaf (some (.slc Nc 0 0 1 1)) .leaf) (some (.bool (decide (i<(↑len:Int))))) .leaf) none (.node .leaf (some (.int .i64 (IntKind.i64.wrap ((0:Int) - kk.tmod (1000:Int))))) .leaf)) (some (.fn (Fn.func (7:FuncId)) [] [])) (.node (.node (.node .leaf (some (.ptr 0 0 (off+i.toNat*3))) .leaf) (some (.int .i64 i)) .leaf) none (.node .leaf (some (.fn (Fn.func (7:FuncId)) [] [])) .leaf))) none (.node (.node (.node (.node .leaf (some (.agg [.str [UInt8.ofNat 107,UInt8.ofNat 101,UInt8.ofNat 121],.int .i64 (IntKind.i64.wrap ((0:Int) - kk.tmod (1000:Int)))])) .leaf) (some (.bool true)) .leaf) none (.node .leaf (some (.ptr 0 0 (off+i.toNat*3))) .leaf)) none (.node (.node (.node .leaf (some (.int .i64 (IntKind.i64.wrap (kv.tmod (500:Int)+(500:Int))))) .leaf) (some (.int .i64 (kk.tmod (1000:Int)))) .leaf) none (.node .leaf (some (.int .i64 i)) .leaf)))) none (.node (.node (.node (.node (.node .leaf (some (.ptr 4 0 0)) .leaf) (some (.int .i64 i)) .leaf) none (.node .leaf (some (.int .i64 i)) .leaf)) (some (.int .i64 (IntKind.i64.wrap ((0:Int) - kk.tmod (1000:Int))))) (.node (.node (.node .leaf (some (.int .i64 kv)) .leaf) (some (.ptr 0 0 (off+i.toNat*3+1))) .leaf) none (.node .leaf (some (.str nm7)) .leaf))) (some (.ptr 4 0 0)) (.node (.node (.node (.node .leaf (some (.slc 0 0 off len cp)) .leaf) none .leaf) none (.node .leaf (some (.bool true)) .leaf)) none (.node (.node .leaf (some (.bool true)) .leaf) (some (.slc 0 0 off len cp)) (.node .leaf (some (.ptr 0 0 (off+i.toNat*3+2))) .leaf)))))),   [.ops (rg P (3:FuncId) [1,1,1,1,0,1,0,0,1,0,0,1,1,0,1,0,1,0]).toList ((rg P (3:FuncId) [1,1,1,1,0,1,0,0,1,0,0,1,1,0,1,0,1,0]).toList.drop 12),.code (cd P (3:FuncId) [1,1,1,1,0,1,0,0,1,0,0,1,1,0,1,0,1,1]),.code (cd P (3:FuncId) [1,1,1,1,0,1,0,0,1,0,0,1,1,1]),.inBlock 1,.code (cd P (3:FuncId) [1,1,1,1,0,1,0,0,1,1]),.inLoop (cd P (3:FuncId) [1,1,1,1,0,1,0,0]),.inBlock 0,.code (cd P (3:FuncId) [1,1,1,1,1])],[],.run,CallKind.normal,none⟩
noncomputable def xR (off:Nat) (len:Nat) (cp:Nat) (i:Int) (kk:Int) (gt:Bool) (bb:Bool) (sv:AV) (sn:List UInt8) (nm7:List UInt8):AFrame:=⟨3,174,(.node (.node (.node (.node (.node (.node .leaf (some (.int .i64 (↑len:Int))) (.node .leaf (some (.tup [.str sn,.bool bb])) .leaf)) none (.node .leaf (some (.int .i64 (kk.tmod (1000:Int)))) .leaf)) (some (.ptr 5 0 0)) (.node (.node .leaf (some (.slc 0 0 off len cp)) (.node .leaf (some (.ptr 5 0 0)) .leaf)) none (.node (.node .leaf (some (.tup [sv,.bool bb])) .leaf) none .leaf))) none (.node (.node (.node .leaf (some (.bool (decide (i<(100:Int))))) (.node .leaf (some (.tup [.str sn,.bool bb])) .leaf)) none (.node .leaf (some (.ptr 0 0 (off+i.toNat*3))) .leaf)) (some sv) (.node (.node .leaf (some (.int .i64 kk)) .leaf) none (.node (.node .leaf (some (.str nm7)) .leaf) none .leaf)))) (some (.slc 0 0 off len cp)) (.node (.node (.node (.node .leaf (some (.bool true)) (.node .leaf (some (.int .i64 (IntKind.i64.wrap ((0:Int) - kk.tmod (1000:Int))))) .leaf)) none (.node .leaf (some (.slc 0 0 off len cp)) .leaf)) (some (.int .i64 i)) (.node (.node .leaf (some (.ptr 0 0 (off+i.toNat*3))) .leaf) none (.node (.node .leaf (some (.fn (Fn.func (7:FuncId)) [] [])) .leaf) none .leaf))) (some (.ptr 2 0 0)) (.node (.node (.node .leaf none (.node .leaf (some (.bool bb)) .leaf)) none (.node .leaf (some (.bool gt)) .leaf)) (some (.str sn)) (.node (.node .leaf (some (.int .i64 (kk.tmod (1000:Int)))) .leaf) (some (.int .i64 i)) (.node (.node .leaf (some sv) .leaf) none .leaf))))) none (.node (.node (.node (.node (.node .leaf (some (.bool (decide (i<(↑len:Int))))) (.node .leaf (some (.ptr 4 0 0)) .leaf)) none (.node .leaf (some (.int .i64 (IntKind.i64.wrap ((0:Int) - kk.tmod (1000:Int))))) .leaf)) (some (.fn (Fn.func (7:FuncId)) [] [])) (.node (.node .leaf (some (.int .i64 i)) (.node .leaf (some (.int .i64 (IntKind.i64.wrap ((0:Int) - kk.tmod (1000:Int))))) .leaf)) none (.node (.node .leaf (some (.ptr 2 0 0)) .leaf) none .leaf))) none (.node (.node (.node .leaf (some (.bool true)) (.node .leaf (some (.str sn)) .leaf)) none (.node .leaf (some (.ptr 0 0 (off+i.toNat*3))) .leaf)) (some (.bool bb)) (.node (.node .leaf (some (.int .i64 (kk.tmod (1000:Int)))) .leaf) none (.node (.node .leaf (some (.tup [sv,.bool bb])) .leaf) none .leaf)))) none (.node (.node (.node (.node .leaf (some (.int .i64 i)) (.node .leaf (some (.agg [.str [UInt8.ofNat 107,UInt8.ofNat 101,UInt8.ofNat 121],.int .i64 (IntKind.i64.wrap ((0:Int) - kk.tmod (1000:Int)))])) .leaf)) none (.node .leaf (some (.int .i64 i)) .leaf)) (some (.int .i64 (IntKind.i64.wrap ((0:Int) - kk.tmod (1000:Int))))) (.node (.node .leaf (some (.ptr 0 0 (off+i.toNat*3+1))) .leaf) none (.node (.node .leaf (some (.int .i64 (IntKind.i64.wrap ((0:Int) - kk.tmod (1000:Int))))) .leaf) none .leaf))) (some (.ptr 4 0 0)) (.node (.node .leaf none (.node .leaf (some (.bool false)) .leaf)) (some (.bool bb)) (.node (.node .leaf (some (.bool true)) .leaf) (some (.slc 0 0 off len cp)) (.node (.node .leaf (some (.bool bb)) .leaf) none .leaf)))))),   [.ops (rg P 3 [1,1,1,1,0,1,0,0,1,0,0,1,1,1,1,1,0]).toList ((rg P 3 [1,1,1,1,0,1,0,0,1,0,0,1,1,1,1,1,0]).toList.drop 2),.code (cd P 3 [1,1,1,1,0,1,0,0,1,0,0,1,1,1,1,1,1]),.inBlock 1,.code (cd P (3:FuncId) [1,1,1,1,0,1,0,0,1,1]),.inLoop (cd P (3:FuncId) [1,1,1,1,0,1,0,0]),.inBlock 0,.code (cd P (3:FuncId) [1,1,1,1,1])],[],.run,CallKind.normal,none⟩
noncomputable def qS (off:Nat) (len:Nat) (cp:Nat) (i:Int) (kk:Int) (kv:Int) (gt:Bool) (nm7:List UInt8) (nm8:List UInt8) (Nc:Nat):AFrame:=⟨3,174,(.node (.node (.node (.node (.node (.node (.node .leaf (some (.int .i64 kv)) .leaf) (some (.int .i64 (↑len:Int))) .leaf) none .leaf) (some (.ptr 5 0 0)) (.node (.node (.node .leaf (some (.int .i64 i)) .leaf) (some (.slc 0 0 off len cp)) .leaf) none (.node .leaf (some (.ptr 2 0 0)) .leaf))) none (.node (.node (.node (.node .leaf (some (.int .i64 (kk.tmod (1000:Int)))) .leaf) (some (.bool (decide (i<(100:Int))))) .leaf) none (.node .leaf (some (.ptr 0 0 (off+i.toNat*3))) .leaf)) none (.node (.node (.node .leaf (some (.int .i64 (kv.tmod (500:Int)))) .leaf) (some (.int .i64 kk)) .leaf) none (.node .leaf (some (.slc 0 0 off len cp)) .leaf)))) (some (.slc 0 0 off len cp)) (.node (.node (.node (.node (.node .leaf (some (.tup [])) .leaf) (some (.bool true)) .leaf) none (.node .leaf (some (.slc 0 0 off len cp)) .leaf)) (some (.int .i64 i)) (.node (.node (.node .leaf (some (.ptr 0 0 (off+i.toNat*3+2))) .leaf) (some (.ptr 0 0 (off+i.toNat*3))) .leaf) none (.node .leaf (some (.int .i64 (kk.tmod (1000:Int)))) .leaf))) (some (.ptr 2 0 0)) (.node (.node (.node (.node .leaf (some (.fn (Fn.func (7:FuncId)) [] [])) .leaf) none .leaf) none (.node .leaf (some (.bool gt)) .leaf)) none (.node (.node (.node .leaf (some (.str nm8)) .leaf) (some (.int .i64 (kk.tmod (1000:Int)))) .leaf) (some (.int .i64 i)) (.node .leaf (some (.ptr 0 0 (off+i.toNat*3))) .leaf))))) none (.node (.node (.node (.node (.node (.node .leaf (some (.slc Nc 0 0 1 1)) .leaf) (some (.bool (decide (i<(↑len:Int))))) .leaf) none .leaf) (some (.fn (Fn.func (7:FuncId)) [] [])) (.node (.node (.node .leaf (some (.ptr 0 0 (off+i.toNat*3))) .leaf) (some (.int .i64 i)) .leaf) none (.node .leaf (some (.fn (Fn.func (7:FuncId)) [] [])) .leaf))) none (.node (.node (.node (.node .leaf (some (.agg [.str [UInt8.ofNat 107,UInt8.ofNat 101,UInt8.ofNat 121],.int .i64 (kk.tmod (1000:Int))])) .leaf) (some (.bool true)) .leaf) none (.node .leaf (some (.ptr 0 0 (off+i.toNat*3))) .leaf)) none (.node (.node (.node .leaf (some (.int .i64 (IntKind.i64.wrap (kv.tmod (500:Int)+(500:Int))))) .leaf) (some (.int .i64 (kk.tmod (1000:Int)))) .leaf) none (.node .leaf (some (.int .i64 i)) .leaf)))) none (.node (.node (.node (.node (.node .leaf (some (.ptr 4 0 0)) .leaf) (some (.int .i64 i)) .leaf) none (.node .leaf (some (.int .i64 i)) .leaf)) (some (.int .i64 (kk.tmod (1000:Int)))) (.node (.node (.node .leaf (some (.int .i64 kv)) .leaf) (some (.ptr 0 0 (off+i.toNat*3+1))) .leaf) none (.node .leaf (some (.str nm7)) .leaf))) (some (.ptr 4 0 0)) (.node (.node (.node (.node .leaf (some (.slc 0 0 off len cp)) .leaf) none .leaf) none (.node .leaf (some (.bool true)) .leaf)) none (.node (.node .leaf (some (.bool false)) .leaf) (some (.slc 0 0 off len cp)) (.node .leaf (some (.ptr 0 0 (off+i.toNat*3+2))) .leaf)))))),   [.ops (rg P (3:FuncId) [1,1,1,1,0,1,0,0,1,0,0,1,1,0,1,0,1,0]).toList ((rg P (3:FuncId) [1,1,1,1,0,1,0,0,1,0,0,1,1,0,1,0,1,0]).toList.drop 12),.code (cd P (3:FuncId) [1,1,1,1,0,1,0,0,1,0,0,1,1,0,1,0,1,1]),.code (cd P (3:FuncId) [1,1,1,1,0,1,0,0,1,0,0,1,1,1]),.inBlock 1,.code (cd P (3:FuncId) [1,1,1,1,0,1,0,0,1,1]),.inLoop (cd P (3:FuncId) [1,1,1,1,0,1,0,0]),.inBlock 0,.code (cd P (3:FuncId) [1,1,1,1,1])],[],.run,CallKind.normal,none⟩
noncomputable def xQ (off:Nat) (len:Nat) (cp:Nat) (i:Int) (kk:Int) (gt:Bool) (bb:Bool) (sv:AV) (sn:List UInt8) (nm7:List UInt8):AFrame:=⟨3,174,(.node (.node (.node (.node (.node (.node .leaf (some (.int .i64 (↑len:Int))) (.node .leaf (some (.tup [.str sn,.bool bb])) .leaf)) none .leaf) (some (.ptr 5 0 0)) (.node (.node .leaf (some (.slc 0 0 off len cp)) (.node .leaf (some (.ptr 5 0 0)) .leaf)) none (.node (.node .leaf (some (.tup [sv,.bool bb])) .leaf) none .leaf))) none (.node (.node (.node .leaf (some (.bool (decide (i<(100:Int))))) (.node .leaf (some (.tup [.str sn,.bool bb])) .leaf)) none (.node .leaf (some (.ptr 0 0 (off+i.toNat*3))) .leaf)) (some sv) (.node (.node .leaf (some (.int .i64 kk)) .leaf) none (.node (.node .leaf (some (.str nm7)) .leaf) none .leaf)))) (some (.slc 0 0 off len cp)) (.node (.node (.node (.node .leaf (some (.bool true)) (.node .leaf (some (.int .i64 (kk.tmod (1000:Int)))) .leaf)) none (.node .leaf (some (.slc 0 0 off len cp)) .leaf)) (some (.int .i64 i)) (.node (.node .leaf (some (.ptr 0 0 (off+i.toNat*3))) .leaf) none (.node (.node .leaf (some (.fn (Fn.func (7:FuncId)) [] [])) .leaf) none .leaf))) (some (.ptr 2 0 0)) (.node (.node (.node .leaf none (.node .leaf (some (.bool bb)) .leaf)) none (.node .leaf (some (.bool gt)) .leaf)) (some (.str sn)) (.node (.node .leaf (some (.int .i64 (kk.tmod (1000:Int)))) .leaf) (some (.int .i64 i)) (.node (.node .leaf (some sv) .leaf) none .leaf))))) none (.node (.node (.node (.node (.node .leaf (some (.bool (decide (i<(↑len:Int))))) (.node .leaf (some (.ptr 4 0 0)) .leaf)) none .leaf) (some (.fn (Fn.func (7:FuncId)) [] [])) (.node (.node .leaf (some (.int .i64 i)) (.node .leaf (some (.int .i64 (kk.tmod (1000:Int)))) .leaf)) none (.node (.node .leaf (some (.ptr 2 0 0)) .leaf) none .leaf))) none (.node (.node (.node .leaf (some (.bool true)) (.node .leaf (some (.str sn)) .leaf)) none (.node .leaf (some (.ptr 0 0 (off+i.toNat*3))) .leaf)) (some (.bool bb)) (.node (.node .leaf (some (.int .i64 (kk.tmod (1000:Int)))) .leaf) none (.node (.node .leaf (some (.tup [sv,.bool bb])) .leaf) none .leaf)))) none (.node (.node (.node (.node .leaf (some (.int .i64 i)) (.node .leaf (some (.agg [.str [UInt8.ofNat 107,UInt8.ofNat 101,UInt8.ofNat 121],.int .i64 (kk.tmod (1000:Int))])) .leaf)) none (.node .leaf (some (.int .i64 i)) .leaf)) (some (.int .i64 (kk.tmod (1000:Int)))) (.node (.node .leaf (some (.ptr 0 0 (off+i.toNat*3+1))) .leaf) none (.node (.node .leaf (some (.int .i64 (kk.tmod (1000:Int)))) .leaf) none .leaf))) (some (.ptr 4 0 0)) (.node (.node .leaf none (.node .leaf (some (.bool false)) .leaf)) (some (.bool bb)) (.node (.node .leaf (some (.bool false)) .leaf) (some (.slc 0 0 off len cp)) (.node (.node .leaf (some (.bool bb)) .leaf) none .leaf)))))),   [.ops (rg P 3 [1,1,1,1,0,1,0,0,1,0,0,1,1,1,1,1,0]).toList ((rg P 3 [1,1,1,1,0,1,0,0,1,0,0,1,1,1,1,1,0]).toList.drop 2),.code (cd P 3 [1,1,1,1,0,1,0,0,1,0,0,1,1,1,1,1,1]),.inBlock 1,.code (cd P (3:FuncId) [1,1,1,1,0,1,0,0,1,1]),.inLoop (cd P (3:FuncId) [1,1,1,1,0,1,0,0]),.inBlock 0,.code (cd P (3:FuncId) [1,1,1,1,1])],[],.run,CallKind.normal,none⟩
noncomputable def yN (off:Nat) (len:Nat) (cp:Nat) (i:Int) (kk:Int) (kv:Int) (gt:Bool) (nm7:List UInt8) (nm8:List UInt8) (Nc:Nat):AFrame:=⟨3,174,(.node (.node (.node (.node (.node (.node (.node .leaf (some (.int .i64 kv)) .leaf) (some (.int .i64 (↑len:Int))) .leaf) none (.node (.node .leaf (some (.ptr 5 0 0)) .leaf) (some (.int .i64 (kk.tmod (1000:Int)))) .leaf)) (some (.ptr 5 0 0)) (.node (.node (.node .leaf (some (.int .i64 i)) .leaf) (some (.slc 0 0 off len cp)) .leaf) none (.node .leaf (some (.ptr 2 0 0)) .leaf))) none (.node (.node (.node (.node .leaf (some (.int .i64 (IntKind.i64.wrap ((0:Int) - kk.tmod (1000:Int))))) .leaf) (some (.bool (decide (i<(100:Int))))) .leaf) none (.node (.node .leaf (some (.ptr 0 0 (off+i.toNat*3))) .leaf) (some (.ptr 0 0 (off+i.toNat*3))) .leaf)) none (.node (.node (.node .leaf (some (.int .i64 (kv.tmod (500:Int)))) .leaf) (some (.int .i64 kk)) .leaf) none (.node .leaf (some (.slc 0 0 off len cp)) .leaf)))) (some (.slc 0 0 off len cp)) (.node (.node (.node (.node (.node .leaf (some (.tup [])) .leaf) (some (.bool true)) .leaf) none (.node (.node .leaf (some (.slc 0 0 off len cp)) .leaf) (some (.slc 0 0 off len cp)) .leaf)) (some (.int .i64 i)) (.node (.node (.node .leaf (some (.ptr 0 0 (off+i.toNat*3+2))) .leaf) (some (.ptr 0 0 (off+i.toNat*3))) .leaf) none (.node .leaf (some (.int .i64 (IntKind.i64.wrap ((0:Int) - kk.tmod (1000:Int))))) .leaf))) (some (.ptr 2 0 0)) (.node (.node (.node (.node .leaf (some (.fn (Fn.func (7:FuncId)) [] [])) .leaf) none .leaf) none (.node (.node .leaf (some (.int .i64 kv)) .leaf) (some (.bool gt)) .leaf)) none (.node (.node (.node .leaf (some (.str nm8)) .leaf) (some (.int .i64 (kk.tmod (1000:Int)))) .leaf) (some (.int .i64 i)) (.node .leaf (some (.ptr 0 0 (off+i.toNat*3))) .leaf))))) none (.node (.node (.node (.node (.node (.node .leaf (some (.slc Nc 0 0 1 1)) .leaf) (some (.bool (decide (i<(↑len:Int))))) .leaf) none (.node (.node .leaf (some (.int .i64 (IntKind.i64.wrap ((0:Int) - kk.tmod (1000:Int))))) .leaf) (some (.int .i64 (IntKind.i64.wrap ((0:Int) - kk.tmod (1000:Int))))) .leaf)) (some (.fn (Fn.func (7:FuncId)) [] [])) (.node (.node (.node .leaf (some (.ptr 0 0 (off+i.toNat*3))) .leaf) (some (.int .i64 i)) .leaf) none (.node .leaf (some (.fn (Fn.func (7:FuncId)) [] [])) .leaf))) none (.node (.node (.node (.node .leaf (some (.agg [.str [UInt8.ofNat 107,UInt8.ofNat 101,UInt8.ofNat 121],.int .i64 (IntKind.i64.wrap ((0:Int) - kk.tmod (1000:Int)))])) .leaf) (some (.bool true)) .leaf) none (.node (.node .leaf (some (.ptr 0 0 (off+i.toNat*3+2))) .leaf) (some (.ptr 0 0 (off+i.toNat*3))) .leaf)) none (.node (.node (.node .leaf (some (.int .i64 (IntKind.i64.wrap (kv.tmod (500:Int)+(500:Int))))) .leaf) (some (.int .i64 (kk.tmod (1000:Int)))) .leaf) none (.node .leaf (some (.int .i64 i)) .leaf)))) none (.node (.node (.node (.node (.node .leaf (some (.ptr 4 0 0)) .leaf) (some (.int .i64 i)) .leaf) none (.node (.node .leaf (some (.int .i64 i)) .leaf) (some (.int .i64 i)) .leaf)) (some (.int .i64 (IntKind.i64.wrap ((0:Int) - kk.tmod (1000:Int))))) (.node (.node (.node .leaf (some (.int .i64 kv)) .leaf) (some (.ptr 0 0 (off+i.toNat*3+1))) .leaf) none (.node .leaf (some (.str nm7)) .leaf))) (some (.ptr 4 0 0)) (.node (.node (.node (.node .leaf (some (.slc 0 0 off len cp)) .leaf) none .leaf) none (.node .leaf (some (.bool true)) .leaf)) none (.node (.node (.node .leaf (some (.tup [])) .leaf) (some (.bool true)) .leaf) (some (.slc 0 0 off len cp)) (.node .leaf (some (.ptr 0 0 (off+i.toNat*3+2))) .leaf)))))),   [.ops (rg P 3 [1,1,1,1,0,1,0,0,1,0,0,1,1,0,1,0,1,1,0]).toList ((rg P 3 [1,1,1,1,0,1,0,0,1,0,0,1,1,0,1,0,1,1,0]).toList.drop 7),.code (cd P 3 [1,1,1,1,0,1,0,0,1,0,0,1,1,0,1,0,1,1,1]),.code (cd P (3:FuncId) [1,1,1,1,0,1,0,0,1,0,0,1,1,1]),.inBlock 1,.code (cd P (3:FuncId) [1,1,1,1,0,1,0,0,1,1]),.inLoop (cd P (3:FuncId) [1,1,1,1,0,1,0,0]),.inBlock 0,.code (cd P (3:FuncId) [1,1,1,1,1])],[],.run,CallKind.normal,none⟩
noncomputable def xS (off:Nat) (len:Nat) (cp:Nat) (i:Int) (kk:Int) (gt:Bool) (bb:Bool) (i1:Nat) (i2:Nat) (i3:Nat) (z1:Int) (z2:Int) (sv:AV) (sn:List UInt8) (xv:Int) (nm7:List UInt8):AFrame:=⟨3,174,(.node (.node (.node (.node (.node (.node (.node (.node .leaf (some (.bool (z2 != xv))) .leaf) none .leaf) (some (.int .i64 (↑len:Int))) (.node .leaf (some (.tup [.str sn,.bool bb])) .leaf)) (some (.int .i64 xv)) (.node .leaf (some (.int .i64 (kk.tmod (1000:Int)))) (.node .leaf (some (.bool false)) .leaf))) (some (.ptr 5 0 0)) (.node (.node .leaf (some (.slc 0 0 off len cp)) (.node .leaf (some (.ptr 5 0 0)) .leaf)) none (.node (.node .leaf (some (.tup [sv,.bool bb])) .leaf) none (.node .leaf (some sv) .leaf)))) none (.node (.node (.node (.node (.node .leaf (some (.fn (Fn.func (7:FuncId)) [] [])) .leaf) none .leaf) (some (.bool (decide (i<(100:Int))))) (.node .leaf (some (.tup [.str sn,.bool bb])) .leaf)) none (.node .leaf (some (.ptr 0 0 (off+i.toNat*3))) (.node .leaf (some (.bool (!bb==bb))) .leaf))) (some sv) (.node (.node .leaf (some (.int .i64 kk)) (.node .leaf (some (.bool bb)) .leaf)) none (.node (.node .leaf (some (.str nm7)) .leaf) none (.node .leaf (some sv) .leaf))))) (some (.slc 0 0 off len cp)) (.node (.node (.node (.node (.node (.node .leaf (some (.bool false)) .leaf) none .leaf) (some (.bool true)) (.node .leaf (some (.int .i64 (IntKind.i64.wrap ((0:Int) - kk.tmod (1000:Int))))) .leaf)) none (.node .leaf (some (.slc 0 0 off len cp)) (.node .leaf (some (.bool bb)) .leaf))) (some (.int .i64 i)) (.node (.node .leaf (some (.ptr 0 0 (off+i.toNat*3))) (.node .leaf (some (.tup [.int .i64 xv,.bool bb])) .leaf)) none (.node (.node .leaf (some (.fn (Fn.func (7:FuncId)) [] [])) .leaf) none (.node .leaf (some (.bool (z1 != (1:Int)))) .leaf)))) (some (.ptr 2 0 0)) (.node (.node (.node (.node (.node .leaf (some (.int .i64 (xv.tmod (500:Int)))) .leaf) none .leaf) none (.node .leaf (some (.bool bb)) .leaf)) none (.node .leaf (some (.bool gt)) (.node .leaf (some (.bool bb)) .leaf))) (some (.str sn)) (.node (.node .leaf (some (.int .i64 (kk.tmod (1000:Int)))) (.node .leaf (some (.bool bb)) .leaf)) (some (.int .i64 i)) (.node (.node .leaf (some sv) .leaf) none (.node .leaf (some (.int .i64 z2)) .leaf)))))) none (.node (.node (.node (.node (.node (.node (.node .leaf (some (.bool (z2 != xv))) .leaf) none .leaf) (some (.bool (decide (i<(↑len:Int))))) (.node .leaf (some (.ptr 4 0 0)) .leaf)) (some (.bool bb)) (.node .leaf (some (.int .i64 (IntKind.i64.wrap ((0:Int) - kk.tmod (1000:Int))))) (.node .leaf (some (.bool bb)) .leaf))) (some (.fn (Fn.func (7:FuncId)) [] [])) (.node (.node .leaf (some (.int .i64 i)) (.node .leaf (some (.int .i64 (IntKind.i64.wrap ((0:Int) - kk.tmod (1000:Int))))) .leaf)) none (.node (.node .leaf (some (.ptr 2 0 0)) .leaf) none (.node .leaf (some (.int .i64 z1)) .leaf)))) none (.node (.node (.node (.node (.node .leaf (some (.int .i64 xv)) .leaf) none .leaf) (some (.bool true)) (.node .leaf (some (.str sn)) .leaf)) none (.node .leaf (some (.ptr 0 0 (off+i.toNat*3))) (.node .leaf (some (.bool false)) .leaf))) (some (.bool bb)) (.node (.node .leaf (some (.int .i64 (kk.tmod (1000:Int)))) (.node .leaf (some (.bool bb)) .leaf)) none (.node (.node .leaf (some (.tup [sv,.bool bb])) .leaf) none (.node .leaf (some (.ptr i1 i2 i3)) .leaf))))) none (.node (.node (.node (.node (.node (.node .leaf (some (.str sn)) .leaf) none .leaf) (some (.int .i64 i)) (.node .leaf (some (.agg [.str [UInt8.ofNat 107,UInt8.ofNat 101,UInt8.ofNat 121],.int .i64 (IntKind.i64.wrap ((0:Int) - kk.tmod (1000:Int)))])) .leaf)) none (.node .leaf (some (.int .i64 i)) (.node .leaf (some (.bool (!bb==bb))) .leaf))) (some (.int .i64 (IntKind.i64.wrap ((0:Int) - kk.tmod (1000:Int))))) (.node (.node .leaf (some (.ptr 0 0 (off+i.toNat*3+1))) (.node .leaf (some (.int .i64 xv)) .leaf)) none (.node (.node .leaf (some (.int .i64 (IntKind.i64.wrap ((0:Int) - kk.tmod (1000:Int))))) .leaf) none (.node .leaf (some (.bool false)) .leaf)))) (some (.ptr 4 0 0)) (.node (.node (.node (.node (.node .leaf (some (.int .i64 (IntKind.i64.wrap (xv.tmod (500:Int)+(500:Int))))) .leaf) none .leaf) none (.node .leaf (some (.tup [.int .i64 xv,.bool bb])) .leaf)) none (.node .leaf (some (.bool false)) (.node .leaf (some (.bool true)) .leaf))) (some (.bool bb)) (.node (.node .leaf (some (.bool true)) (.node .leaf (some (.bool (!bb==bb))) .leaf)) (some (.slc 0 0 off len cp)) (.node (.node .leaf (some (.bool bb)) .leaf) none (.node .leaf (some (.int .i64 xv)) .leaf))))))),   [.ops (rg P 3 [1,1,1,1,0,1,0,0,1,0,0,1,1,1,1,1,1,0]).toList ((rg P 3 [1,1,1,1,0,1,0,0,1,0,0,1,1,1,1,1,1,0]).toList.drop 27),.code (cd P 3 [1,1,1,1,0,1,0,0,1,0,0,1,1,1,1,1,1,1]),.inBlock 1,.code (cd P (3:FuncId) [1,1,1,1,0,1,0,0,1,1]),.inLoop (cd P (3:FuncId) [1,1,1,1,0,1,0,0]),.inBlock 0,.code (cd P (3:FuncId) [1,1,1,1,1])],[],.run,CallKind.normal,none⟩
noncomputable def yL (off:Nat) (len:Nat) (cp:Nat) (i:Int) (kk:Int) (kv:Int) (gt:Bool) (nm7:List UInt8) (nm8:List UInt8) (Nc:Nat):AFrame:=⟨3,174,(.node (.node (.node (.node (.node (.node (.node .leaf (some (.int .i64 kv)) .leaf) (some (.int .i64 (↑len:Int))) .leaf) none (.node (.node .leaf (some (.ptr 5 0 0)) .leaf) none .leaf)) (some (.ptr 5 0 0)) (.node (.node (.node .leaf (some (.int .i64 i)) .leaf) (some (.slc 0 0 off len cp)) .leaf) none (.node .leaf (some (.ptr 2 0 0)) .leaf))) none (.node (.node (.node (.node .leaf (some (.int .i64 (kk.tmod (1000:Int)))) .leaf) (some (.bool (decide (i<(100:Int))))) .leaf) none (.node (.node .leaf (some (.ptr 0 0 (off+i.toNat*3))) .leaf) (some (.ptr 0 0 (off+i.toNat*3))) .leaf)) none (.node (.node (.node .leaf (some (.int .i64 (kv.tmod (500:Int)))) .leaf) (some (.int .i64 kk)) .leaf) none (.node .leaf (some (.slc 0 0 off len cp)) .leaf)))) (some (.slc 0 0 off len cp)) (.node (.node (.node (.node (.node .leaf (some (.tup [])) .leaf) (some (.bool true)) .leaf) none (.node (.node .leaf (some (.slc 0 0 off len cp)) .leaf) (some (.slc 0 0 off len cp)) .leaf)) (some (.int .i64 i)) (.node (.node (.node .leaf (some (.ptr 0 0 (off+i.toNat*3+2))) .leaf) (some (.ptr 0 0 (off+i.toNat*3))) .leaf) none (.node .leaf (some (.int .i64 (kk.tmod (1000:Int)))) .leaf))) (some (.ptr 2 0 0)) (.node (.node (.node (.node .leaf (some (.fn (Fn.func (7:FuncId)) [] [])) .leaf) none .leaf) none (.node (.node .leaf (some (.int .i64 kv)) .leaf) (some (.bool gt)) .leaf)) none (.node (.node (.node .leaf (some (.str nm8)) .leaf) (some (.int .i64 (kk.tmod (1000:Int)))) .leaf) (some (.int .i64 i)) (.node .leaf (some (.ptr 0 0 (off+i.toNat*3))) .leaf))))) none (.node (.node (.node (.node (.node (.node .leaf (some (.slc Nc 0 0 1 1)) .leaf) (some (.bool (decide (i<(↑len:Int))))) .leaf) none (.node (.node .leaf (some (.int .i64 (kk.tmod (1000:Int)))) .leaf) none .leaf)) (some (.fn (Fn.func (7:FuncId)) [] [])) (.node (.node (.node .leaf (some (.ptr 0 0 (off+i.toNat*3))) .leaf) (some (.int .i64 i)) .leaf) none (.node .leaf (some (.fn (Fn.func (7:FuncId)) [] [])) .leaf))) none (.node (.node (.node (.node .leaf (some (.agg [.str [UInt8.ofNat 107,UInt8.ofNat 101,UInt8.ofNat 121],.int .i64 (kk.tmod (1000:Int))])) .leaf) (some (.bool true)) .leaf) none (.node (.node .leaf (some (.ptr 0 0 (off+i.toNat*3+2))) .leaf) (some (.ptr 0 0 (off+i.toNat*3))) .leaf)) none (.node (.node (.node .leaf (some (.int .i64 (IntKind.i64.wrap (kv.tmod (500:Int)+(500:Int))))) .leaf) (some (.int .i64 (kk.tmod (1000:Int)))) .leaf) none (.node .leaf (some (.int .i64 i)) .leaf)))) none (.node (.node (.node (.node (.node .leaf (some (.ptr 4 0 0)) .leaf) (some (.int .i64 i)) .leaf) none (.node (.node .leaf (some (.int .i64 i)) .leaf) (some (.int .i64 i)) .leaf)) (some (.int .i64 (kk.tmod (1000:Int)))) (.node (.node (.node .leaf (some (.int .i64 kv)) .leaf) (some (.ptr 0 0 (off+i.toNat*3+1))) .leaf) none (.node .leaf (some (.str nm7)) .leaf))) (some (.ptr 4 0 0)) (.node (.node (.node (.node .leaf (some (.slc 0 0 off len cp)) .leaf) none .leaf) none (.node .leaf (some (.bool true)) .leaf)) none (.node (.node (.node .leaf (some (.tup [])) .leaf) (some (.bool false)) .leaf) (some (.slc 0 0 off len cp)) (.node .leaf (some (.ptr 0 0 (off+i.toNat*3+2))) .leaf)))))),   [.ops (rg P 3 [1,1,1,1,0,1,0,0,1,0,0,1,1,0,1,0,1,1,0]).toList ((rg P 3 [1,1,1,1,0,1,0,0,1,0,0,1,1,0,1,0,1,1,0]).toList.drop 7),.code (cd P 3 [1,1,1,1,0,1,0,0,1,0,0,1,1,0,1,0,1,1,1]),.code (cd P (3:FuncId) [1,1,1,1,0,1,0,0,1,0,0,1,1,1]),.inBlock 1,.code (cd P (3:FuncId) [1,1,1,1,0,1,0,0,1,1]),.inLoop (cd P (3:FuncId) [1,1,1,1,0,1,0,0]),.inBlock 0,.code (cd P (3:FuncId) [1,1,1,1,1])],[],.run,CallKind.normal,none⟩
noncomputable def xT (off:Nat) (len:Nat) (cp:Nat) (i:Int) (kk:Int) (gt:Bool) (bb:Bool) (i1:Nat) (i2:Nat) (i3:Nat) (z1:Int) (z2:Int) (sv:AV) (sn:List UInt8) (xv:Int) (nm7:List UInt8):AFrame:=⟨3,174,(.node (.node (.node (.node (.node (.node (.node (.node .leaf (some (.bool (z2 != xv))) .leaf) none .leaf) (some (.int .i64 (↑len:Int))) (.node .leaf (some (.tup [.str sn,.bool bb])) .leaf)) (some (.int .i64 xv)) (.node .leaf none (.node .leaf (some (.bool false)) .leaf))) (some (.ptr 5 0 0)) (.node (.node .leaf (some (.slc 0 0 off len cp)) (.node .leaf (some (.ptr 5 0 0)) .leaf)) none (.node (.node .leaf (some (.tup [sv,.bool bb])) .leaf) none (.node .leaf (some sv) .leaf)))) none (.node (.node (.node (.node (.node .leaf (some (.fn (Fn.func (7:FuncId)) [] [])) .leaf) none .leaf) (some (.bool (decide (i<(100:Int))))) (.node .leaf (some (.tup [.str sn,.bool bb])) .leaf)) none (.node .leaf (some (.ptr 0 0 (off+i.toNat*3))) (.node .leaf (some (.bool (!bb==bb))) .leaf))) (some sv) (.node (.node .leaf (some (.int .i64 kk)) (.node .leaf (some (.bool bb)) .leaf)) none (.node (.node .leaf (some (.str nm7)) .leaf) none (.node .leaf (some sv) .leaf))))) (some (.slc 0 0 off len cp)) (.node (.node (.node (.node (.node (.node .leaf (some (.bool false)) .leaf) none .leaf) (some (.bool true)) (.node .leaf (some (.int .i64 (kk.tmod (1000:Int)))) .leaf)) none (.node .leaf (some (.slc 0 0 off len cp)) (.node .leaf (some (.bool bb)) .leaf))) (some (.int .i64 i)) (.node (.node .leaf (some (.ptr 0 0 (off+i.toNat*3))) (.node .leaf (some (.tup [.int .i64 xv,.bool bb])) .leaf)) none (.node (.node .leaf (some (.fn (Fn.func (7:FuncId)) [] [])) .leaf) none (.node .leaf (some (.bool (z1 != (1:Int)))) .leaf)))) (some (.ptr 2 0 0)) (.node (.node (.node (.node (.node .leaf (some (.int .i64 (xv.tmod (500:Int)))) .leaf) none .leaf) none (.node .leaf (some (.bool bb)) .leaf)) none (.node .leaf (some (.bool gt)) (.node .leaf (some (.bool bb)) .leaf))) (some (.str sn)) (.node (.node .leaf (some (.int .i64 (kk.tmod (1000:Int)))) (.node .leaf (some (.bool bb)) .leaf)) (some (.int .i64 i)) (.node (.node .leaf (some sv) .leaf) none (.node .leaf (some (.int .i64 z2)) .leaf)))))) none (.node (.node (.node (.node (.node (.node (.node .leaf (some (.bool (z2 != xv))) .leaf) none .leaf) (some (.bool (decide (i<(↑len:Int))))) (.node .leaf (some (.ptr 4 0 0)) .leaf)) (some (.bool bb)) (.node .leaf none (.node .leaf (some (.bool bb)) .leaf))) (some (.fn (Fn.func (7:FuncId)) [] [])) (.node (.node .leaf (some (.int .i64 i)) (.node .leaf (some (.int .i64 (kk.tmod (1000:Int)))) .leaf)) none (.node (.node .leaf (some (.ptr 2 0 0)) .leaf) none (.node .leaf (some (.int .i64 z1)) .leaf)))) none (.node (.node (.node (.node (.node .leaf (some (.int .i64 xv)) .leaf) none .leaf) (some (.bool true)) (.node .leaf (some (.str sn)) .leaf)) none (.node .leaf (some (.ptr 0 0 (off+i.toNat*3))) (.node .leaf (some (.bool false)) .leaf))) (some (.bool bb)) (.node (.node .leaf (some (.int .i64 (kk.tmod (1000:Int)))) (.node .leaf (some (.bool bb)) .leaf)) none (.node (.node .leaf (some (.tup [sv,.bool bb])) .leaf) none (.node .leaf (some (.ptr i1 i2 i3)) .leaf))))) none (.node (.node (.node (.node (.node (.node .leaf (some (.str sn)) .leaf) none .leaf) (some (.int .i64 i)) (.node .leaf (some (.agg [.str [UInt8.ofNat 107,UInt8.ofNat 101,UInt8.ofNat 121],.int .i64 (kk.tmod (1000:Int))])) .leaf)) none (.node .leaf (some (.int .i64 i)) (.node .leaf (some (.bool (!bb==bb))) .leaf))) (some (.int .i64 (kk.tmod (1000:Int)))) (.node (.node .leaf (some (.ptr 0 0 (off+i.toNat*3+1))) (.node .leaf (some (.int .i64 xv)) .leaf)) none (.node (.node .leaf (some (.int .i64 (kk.tmod (1000:Int)))) .leaf) none (.node .leaf (some (.bool false)) .leaf)))) (some (.ptr 4 0 0)) (.node (.node (.node (.node (.node .leaf (some (.int .i64 (IntKind.i64.wrap (xv.tmod (500:Int)+(500:Int))))) .leaf) none .leaf) none (.node .leaf (some (.tup [.int .i64 xv,.bool bb])) .leaf)) none (.node .leaf (some (.bool false)) (.node .leaf (some (.bool true)) .leaf))) (some (.bool bb)) (.node (.node .leaf (some (.bool false)) (.node .leaf (some (.bool (!bb==bb))) .leaf)) (some (.slc 0 0 off len cp)) (.node (.node .leaf (some (.bool bb)) .leaf) none (.node .leaf (some (.int .i64 xv)) .leaf))))))),   [.ops (rg P 3 [1,1,1,1,0,1,0,0,1,0,0,1,1,1,1,1,1,0]).toList ((rg P 3 [1,1,1,1,0,1,0,0,1,0,0,1,1,1,1,1,1,0]).toList.drop 27),.code (cd P 3 [1,1,1,1,0,1,0,0,1,0,0,1,1,1,1,1,1,1]),.inBlock 1,.code (cd P (3:FuncId) [1,1,1,1,0,1,0,0,1,1]),.inLoop (cd P (3:FuncId) [1,1,1,1,0,1,0,0]),.inBlock 0,.code (cd P (3:FuncId) [1,1,1,1,1])],[],.run,CallKind.normal,none⟩
theorem q_nm (R:AV→AHeap→Prop)(keep:Nat)(f0:FuncId)(rest:List AFrame)(N:Nat)(O:T AObj)(kk:Int)(O1:T AObj)(l1:List UInt8)(G:T (T AV))(K:AM→Prop):Obl P f0 (fun v h=>R v h) keep K [.run 11,.hopn (.slc N 0 0 2 2) O1 (N+1),.hopn (.str l1) O1 (N+1),.run 3,.keep [2]] ((AM.mk (enF 7 [.int .i64 kk]) rest ⟨O,N,G⟩))=((zg P (⟨O,N,G⟩) 32 2 ([(0,.int .u8 (IntKind.u8.wrap kk)),(1,.int .u8 (IntKind.u8.wrap (IntKind.i64.wrap (kk.tdiv (256:Int)))))])=(some (.slc N 0 0 2 2,⟨O1,N+1,G⟩)))∧(zb9 P (⟨O1,N+1,G⟩) 32 9 (.slc N 0 0 2 2)=(some (.str l1)))∧K (AM.mk (RF 7 10 (.node .leaf none (.node .leaf (some (.str l1)) .leaf)) [.code (cd P 7 [1,1])]) rest ⟨O1,N+1,G⟩)):=by kernel_rfl
theorem zkY (R:AV→AHeap→Prop)(keep:Nat)(f0:FuncId)(rest:List AFrame)(N:Nat)(O:T AObj)(off:Nat)(len:Nat)(cp:Nat)(i:Int)(kk:Int)(kv:Int)(gt:Bool)(O1:T AObj)(G:T (T AV))(K:AM→Prop):Obl P f0 (fun v h=>R v h) keep K [.run 8,.know 33 true,.run 4,.know 36 true,.run 8,.op,.run 1,.hop (.int .i64 kk) O,.run 9,.know 46 true,.run 11,.op,.run 1,.hop (.bool gt) O,.run 2,.know 54 true,.run 8,.op,.run 1,.hop (.int .i64 kv) O,.hopn (.slc N 0 0 1 1) O1 (N+1),.run 1] ((WK off len cp i rest O N G))=((decide (i<(↑len:Int))=true)∧(decide (i<(100:Int))=true)∧((0:Int)≤i∧i<(↑len:Int))∧(za (⟨O,N,G⟩) 0 0 (off+i.toNat*3+1) 1=(some [.int .i64 kk]))∧(decide (kk.tmod (1000:Int)<(0:Int))=true)∧((0:Int)≤i∧i<(↑len:Int))∧(za (⟨O,N,G⟩) 0 0 (off+i.toNat*3) 1=(some [.bool gt]))∧((!gt)=true)∧((0:Int)≤i∧i<(↑len:Int))∧(za (⟨O,N,G⟩) 0 0 (off+i.toNat*3+2) 1=(some [.int .i64 kv]))∧(zg P (⟨O,N,G⟩) 25 1 ([(0,.int .i64 kv)])=(some (.slc N 0 0 1 1,⟨O1,N+1,G⟩)))∧(za (⟨O1,N+1,G⟩) 0 0 (off+i.toNat*3+2) 1=(some [.int .i64 kv]))∧K (AM.mk (enF 7 [.int .i64 (IntKind.i64.wrap ((0:Int) - kk.tmod (1000:Int)))]) ((zjT N off len cp i kk kv gt)::rest) ⟨O1,N+1,G⟩)):=by kernel_rfl
theorem zf5 (R:AV→AHeap→Prop)(keep:Nat)(f0:FuncId)(rest:List AFrame)(td:List AItem)(N:Nat)(O:T AObj)(off:Nat)(len:Nat)(cp:Nat)(i:Int)(kk:Int)(kv:Int)(gt:Bool)(nm7:List UInt8)(Nc:Nat)(G:T (T AV))(K:AM→Prop):Obl P f0 (fun v h=>R v h) keep K [.hret [.nilp],.run 1] ((AM.mk (RF 7 10 (.node .leaf none (.node .leaf (some (.str nm7)) .leaf)) td) ((zjT Nc off len cp i kk kv gt)::rest) ⟨O,N,G⟩))=((True)∧(za (⟨O,N,G⟩) 0 0 (off+i.toNat*3+2) 1=(some [.int .i64 kv]))∧K (AM.mk (enF 8 [.ptr 2 0 0,.str nm7,.slc Nc 0 0 1 1]) ((zc8 off len cp i kk kv gt nm7 Nc)::rest) ⟨O,N,G⟩)):=by kernel_rfl
theorem zcG (R:AV→AHeap→Prop)(keep:Nat)(f0:FuncId)(rest:List AFrame)(td:List AItem)(N:Nat)(O:T AObj)(off:Nat)(len:Nat)(cp:Nat)(i:Int)(kk:Int)(kv:Int)(gt:Bool)(nm7:List UInt8)(Nc:Nat)(G:T (T AV))(K:AM→Prop):Obl P f0 (fun v h=>R v h) keep K [.run 10,.op,.run 1,.hop (.int .i64 kv) O,.run 3] ((AM.mk (RF 8 53 .leaf td) ((zc8 off len cp i kk kv gt nm7 Nc)::rest) ⟨O,N,G⟩))=(((0:Int)≤i∧i<(↑len:Int))∧(za (⟨O,N,G⟩) 0 0 (off+i.toNat*3+2) 1=(some [.int .i64 kv]))∧K (AM.mk (enF 7 [.int .i64 (IntKind.i64.wrap (kv.tmod (500:Int)+(500:Int)))]) ((jB off len cp i kk kv gt nm7 Nc)::rest) ⟨O,N,G⟩)):=by kernel_rfl
section
set_option linter.unusedSectionVars false
variable (R:AV→AHeap→Prop) (keep:Nat) (f0:FuncId) (rest:List AFrame) (td:List AItem) (N:Nat) (O:T AObj) (off:Nat) (len:Nat) (cp:Nat) (i:Int) (kk:Int) (kv:Int) (gt:Bool) (nm7:List UInt8) (nm8:List UInt8) (Nc:Nat) (G:T (T AV)) (K:AM→Prop)
include R keep f0 rest td N O off len cp i kk kv gt nm7 nm8 Nc G K
theorem jG:Obl P f0 (fun v h=>R v h) keep K [.run 2] ((AM.mk (RF 7 10 (.node .leaf none (.node .leaf (some (.str nm8)) .leaf)) td) ((jB off len cp i kk kv gt nm7 Nc)::rest) ⟨O,N,G⟩))=(K (AM.mk (enF 9 [.ptr 4 0 0,.agg [.str [UInt8.ofNat 107,UInt8.ofNat 101,UInt8.ofNat 121],.int .i64 (IntKind.i64.wrap ((0:Int) - kk.tmod (1000:Int)))],.str nm8]) ((wh off len cp i kk kv gt nm7 nm8 Nc)::rest) ⟨O,N,G⟩)):=by kernel_rfl
theorem vd:Obl P f0 (fun v h=>R v h) keep K [.run 8,.op,.run 1,.hop (.int .i64 kv) O,.run 1] ((AM.mk (RF 9 53 .leaf td) ((wh off len cp i kk kv gt nm7 nm8 Nc)::rest) ⟨O,N,G⟩))=(((0:Int)≤i∧i<(↑len:Int))∧(za (⟨O,N,G⟩) 0 0 (off+i.toNat*3+2) 1=(some [.int .i64 kv]))∧K (AM.mk (enF 10 [.ptr 5 0 0,.int .i64 (IntKind.i64.wrap ((0:Int) - kk.tmod (1000:Int))),.int .i64 kv]) ((yN off len cp i kk kv gt nm7 nm8 Nc)::rest) ⟨O,N,G⟩)):=by kernel_rfl
theorem qJ:Obl P f0 (fun v h=>R v h) keep K [.run 9,.keep [1,5,6,7,8,9]] ((AM.mk (RF 10 55 .leaf td) ((yN off len cp i kk kv gt nm7 nm8 Nc)::rest) ⟨O,N,G⟩))=(K (WK off len cp (IntKind.i64.wrap (i+(1:Int))) rest O N G)):=by kernel_rfl
end
theorem zke (R:AV→AHeap→Prop)(keep:Nat)(f0:FuncId)(rest:List AFrame)(N:Nat)(O:T AObj)(off:Nat)(len:Nat)(cp:Nat)(i:Int)(kk:Int)(gt:Bool)(G:T (T AV))(K:AM→Prop):Obl P f0 (fun v h=>R v h) keep K [.run 8,.know 33 true,.run 4,.know 36 true,.run 8,.op,.run 1,.hop (.int .i64 kk) O,.run 9,.know 46 true,.run 11,.op,.run 1,.hop (.bool gt) O,.run 2,.know 54 false,.run 8] ((WK off len cp i rest O N G))=((decide (i<(↑len:Int))=true)∧(decide (i<(100:Int))=true)∧((0:Int)≤i∧i<(↑len:Int))∧(za (⟨O,N,G⟩) 0 0 (off+i.toNat*3+1) 1=(some [.int .i64 kk]))∧(decide (kk.tmod (1000:Int)<(0:Int))=true)∧((0:Int)≤i∧i<(↑len:Int))∧(za (⟨O,N,G⟩) 0 0 (off+i.toNat*3) 1=(some [.bool gt]))∧((!gt)=false)∧K (AM.mk (enF 7 [.int .i64 (IntKind.i64.wrap ((0:Int) - kk.tmod (1000:Int)))]) ((zjM off len cp i kk gt)::rest) ⟨O,N,G⟩)):=by kernel_rfl
theorem zgd (R:AV→AHeap→Prop)(keep:Nat)(f0:FuncId)(rest:List AFrame)(td:List AItem)(N:Nat)(O:T AObj)(off:Nat)(len:Nat)(cp:Nat)(i:Int)(kk:Int)(gt:Bool)(nm7:List UInt8)(G:T (T AV))(K:AM→Prop):Obl P f0 (fun v h=>R v h) keep K [.run 2] ((AM.mk (RF 7 10 (.node .leaf none (.node .leaf (some (.str nm7)) .leaf)) td) ((zjM off len cp i kk gt)::rest) ⟨O,N,G⟩))=(K (AM.mk (enF 11 [.ptr 2 0 0,.str nm7]) ((zdJ off len cp i kk gt nm7)::rest) ⟨O,N,G⟩)):=by kernel_rfl
theorem vQ (R:AV→AHeap→Prop)(keep:Nat)(f0:FuncId)(rest:List AFrame)(td:List AItem)(N:Nat)(O:T AObj)(off:Nat)(len:Nat)(cp:Nat)(i:Int)(kk:Int)(gt:Bool)(bb:Bool)(sv:AV)(nm7:List UInt8)(G:T (T AV))(K:AM→Prop):Obl P f0 (fun v h=>R v h) keep K [.run 13] ((AM.mk (RF 11 25 (.node (.node .leaf none (.node .leaf (some (.bool bb)) .leaf)) none (.node (.node .leaf (some (sv)) .leaf) none .leaf)) td) ((zdJ off len cp i kk gt nm7)::rest) ⟨O,N,G⟩))=(K (AM.mk (enF 12 [.ptr 4 0 0,.agg [.str [UInt8.ofNat 107,UInt8.ofNat 101,UInt8.ofNat 121],.int .i64 (IntKind.i64.wrap ((0:Int) - kk.tmod (1000:Int)))]]) ((jA off len cp i kk gt bb sv nm7)::rest) ⟨O,N,G⟩)):=by kernel_rfl
theorem qF (R:AV→AHeap→Prop)(keep:Nat)(f0:FuncId)(rest:List AFrame)(td:List AItem)(N:Nat)(O:T AObj)(off:Nat)(len:Nat)(cp:Nat)(i:Int)(kk:Int)(gt:Bool)(bb:Bool)(sv:AV)(sn:List UInt8)(nm7:List UInt8)(G:T (T AV))(K:AM→Prop):Obl P f0 (fun v h=>R v h) keep K [.run 12] ((AM.mk (RF 12 25 (.node (.node .leaf none (.node .leaf (some (.bool bb)) .leaf)) none (.node (.node .leaf (some (.str sn)) .leaf) none .leaf)) td) ((jA off len cp i kk gt bb sv nm7)::rest) ⟨O,N,G⟩))=(K (AM.mk (enF 13 [.ptr 5 0 0,.int .i64 (IntKind.i64.wrap ((0:Int) - kk.tmod (1000:Int)))]) ((xR off len cp i kk gt bb sv sn nm7)::rest) ⟨O,N,G⟩)):=by kernel_rfl
theorem qx (R:AV→AHeap→Prop)(keep:Nat)(f0:FuncId)(rest:List AFrame)(td:List AItem)(N:Nat)(O:T AObj)(off:Nat)(len:Nat)(cp:Nat)(i:Int)(kk:Int)(gt:Bool)(bb:Bool)(sv:AV)(sn:List UInt8)(xv:Int)(nm7:List UInt8)(z1:Int)(G:T (T AV))(K:AM→Prop):Obl P f0 (fun v h=>R v h) keep K [.run 13,.know 111 false,.run 5,.know 116 false,.run 2,.know 118 false,.run 25,.know 143 true,.run 1,.hopn (.int .i64 z1) O (N),.run 2,.know 147 false,.run 6,.know 152 false,.run 9,.keep [1,5,6,7,8,9]] ((AM.mk (RF 13 21 (.node (.node .leaf none (.node .leaf (some (.bool bb)) .leaf)) none (.node (.node .leaf (some (.int .i64 xv)) .leaf) none .leaf)) td) ((xR off len cp i kk gt bb sv sn nm7)::rest) ⟨O,N,G⟩))=(((!bb==bb)=false)∧((!bb==bb)=false)∧(bb=false)∧((!bb)=true)∧(xd P (⟨O,N,G⟩) (Builtin.len) ((some 25)) ([sv])=(some (.int .i64 z1)))∧((z1 != (0:Int))=false)∧((!sn==([]:List UInt8))=false)∧K (WK off len cp (IntKind.i64.wrap (i+(1:Int))) rest O N G)):=by kernel_rfl
theorem qu (R:AV→AHeap→Prop)(keep:Nat)(f0:FuncId)(rest:List AFrame)(td:List AItem)(N:Nat)(O:T AObj)(off:Nat)(len:Nat)(cp:Nat)(i:Int)(kk:Int)(gt:Bool)(bb:Bool)(sv:AV)(sn:List UInt8)(xv:Int)(nm7:List UInt8)(i1:Nat)(i2:Nat)(i3:Nat)(z1:Int)(z2:Int)(G:T (T AV))(K:AM→Prop):Obl P f0 (fun v h=>R v h) keep K [.run 13,.know 111 false,.run 5,.know 116 false,.run 2,.know 118 true,.run 1,.hopn (.int .i64 z1) O (N),.run 2,.know 122 false,.run 1,.hopn (.ptr i1 i2 i3) O (N),.hop (.int .i64 z2) O,.run 4,.know 129 false,.run 6] ((AM.mk (RF 13 21 (.node (.node .leaf none (.node .leaf (some (.bool bb)) .leaf)) none (.node (.node .leaf (some (.int .i64 xv)) .leaf) none .leaf)) td) ((xR off len cp i kk gt bb sv sn nm7)::rest) ⟨O,N,G⟩))=(((!bb==bb)=false)∧((!bb==bb)=false)∧(bb=true)∧(xd P (⟨O,N,G⟩) (Builtin.len) ((some 25)) ([sv])=(some (.int .i64 z1)))∧((z1 != (1:Int))=false)∧(zm P 25 (sv) (.int .i64 0)=(some (.ptr i1 i2 i3)))∧(za (⟨O,N,G⟩) (i1) (i2) (i3) 1=(some [.int .i64 z2]))∧((z2 != xv)=false)∧K (AM.mk (enF 7 [.int .i64 (IntKind.i64.wrap (xv.tmod (500:Int)+(500:Int)))]) ((xS off len cp i kk gt bb i1 i2 i3 z1 z2 sv sn xv nm7)::rest) ⟨O,N,G⟩)):=by kernel_rfl
theorem yi (R:AV→AHeap→Prop)(keep:Nat)(f0:FuncId)(rest:List AFrame)(td:List AItem)(N:Nat)(O:T AObj)(off:Nat)(len:Nat)(cp:Nat)(i:Int)(kk:Int)(gt:Bool)(bb:Bool)(sv:AV)(sn:List UInt8)(xv:Int)(nm7:List UInt8)(nm8:List UInt8)(i1c:Nat)(i2c:Nat)(i3c:Nat)(z1c:Int)(z2c:Int)(G:T (T AV))(K:AM→Prop):Obl P f0 (fun v h=>R v h) keep K [.run 6,.know 140 false,.run 3,.know 143 false,.run 19,.keep [1,5,6,7,8,9]] ((AM.mk (RF 7 10 (.node .leaf none (.node .leaf (some (.str nm8)) .leaf)) td) ((xS off len cp i kk gt bb i1c i2c i3c z1c z2c sv sn xv nm7)::rest) ⟨O,N,G⟩))=(((!sn==nm8)=false)∧((!bb)=false)∧K (WK off len cp (IntKind.i64.wrap (i+(1:Int))) rest O N G)):=by kernel_rfl
theorem zj4 (R:AV→AHeap→Prop)(keep:Nat)(f0:FuncId)(rest:List AFrame)(N:Nat)(O:T AObj)(off:Nat)(len:Nat)(cp:Nat)(i:Int)(kk:Int)(kv:Int)(gt:Bool)(O1:T AObj)(G:T (T AV))(K:AM→Prop):Obl P f0 (fun v h=>R v h) keep K [.run 8,.know 33 true,.run 4,.know 36 true,.run 8,.op,.run 1,.hop (.int .i64 kk) O,.run 9,.know 46 false,.run 7,.op,.run 1,.hop (.bool gt) O,.run 2,.know 54 true,.run 8,.op,.run 1,.hop (.int .i64 kv) O,.hopn (.slc N 0 0 1 1) O1 (N+1),.run 1] ((WK off len cp i rest O N G))=((decide (i<(↑len:Int))=true)∧(decide (i<(100:Int))=true)∧((0:Int)≤i∧i<(↑len:Int))∧(za (⟨O,N,G⟩) 0 0 (off+i.toNat*3+1) 1=(some [.int .i64 kk]))∧(decide (kk.tmod (1000:Int)<(0:Int))=false)∧((0:Int)≤i∧i<(↑len:Int))∧(za (⟨O,N,G⟩) 0 0 (off+i.toNat*3) 1=(some [.bool gt]))∧((!gt)=true)∧((0:Int)≤i∧i<(↑len:Int))∧(za (⟨O,N,G⟩) 0 0 (off+i.toNat*3+2) 1=(some [.int .i64 kv]))∧(zg P (⟨O,N,G⟩) 25 1 ([(0,.int .i64 kv)])=(some (.slc N 0 0 1 1,⟨O1,N+1,G⟩)))∧(za (⟨O1,N+1,G⟩) 0 0 (off+i.toNat*3+2) 1=(some [.int .i64 kv]))∧K (AM.mk (enF 7 [.int .i64 (kk.tmod (1000:Int))]) ((zjz N off len cp i kk kv gt)::rest) ⟨O1,N+1,G⟩)):=by kernel_rfl
theorem zgg (R:AV→AHeap→Prop)(keep:Nat)(f0:FuncId)(rest:List AFrame)(td:List AItem)(N:Nat)(O:T AObj)(off:Nat)(len:Nat)(cp:Nat)(i:Int)(kk:Int)(kv:Int)(gt:Bool)(nm7:List UInt8)(Nc:Nat)(G:T (T AV))(K:AM→Prop):Obl P f0 (fun v h=>R v h) keep K [.hret [.nilp],.run 1] ((AM.mk (RF 7 10 (.node .leaf none (.node .leaf (some (.str nm7)) .leaf)) td) ((zjz Nc off len cp i kk kv gt)::rest) ⟨O,N,G⟩))=((True)∧(za (⟨O,N,G⟩) 0 0 (off+i.toNat*3+2) 1=(some [.int .i64 kv]))∧K (AM.mk (enF 8 [.ptr 2 0 0,.str nm7,.slc Nc 0 0 1 1]) ((zdr off len cp i kk kv gt nm7 Nc)::rest) ⟨O,N,G⟩)):=by kernel_rfl
theorem zcQ (R:AV→AHeap→Prop)(keep:Nat)(f0:FuncId)(rest:List AFrame)(td:List AItem)(N:Nat)(O:T AObj)(off:Nat)(len:Nat)(cp:Nat)(i:Int)(kk:Int)(kv:Int)(gt:Bool)(nm7:List UInt8)(Nc:Nat)(G:T (T AV))(K:AM→Prop):Obl P f0 (fun v h=>R v h) keep K [.run 10,.op,.run 1,.hop (.int .i64 kv) O,.run 3] ((AM.mk (RF 8 53 .leaf td) ((zdr off len cp i kk kv gt nm7 Nc)::rest) ⟨O,N,G⟩))=(((0:Int)≤i∧i<(↑len:Int))∧(za (⟨O,N,G⟩) 0 0 (off+i.toNat*3+2) 1=(some [.int .i64 kv]))∧K (AM.mk (enF 7 [.int .i64 (IntKind.i64.wrap (kv.tmod (500:Int)+(500:Int)))]) ((jz off len cp i kk kv gt nm7 Nc)::rest) ⟨O,N,G⟩)):=by kernel_rfl
section
set_option linter.unusedSectionVars false
variable (R:AV→AHeap→Prop) (keep:Nat) (f0:FuncId) (rest:List AFrame) (td:List AItem) (N:Nat) (O:T AObj) (off:Nat) (len:Nat) (cp:Nat) (i:Int) (kk:Int) (kv:Int) (gt:Bool) (nm7:List UInt8) (nm8:List UInt8) (Nc:Nat) (G:T (T AV)) (K:AM→Prop)
include R keep f0 rest td N O off len cp i kk kv gt nm7 nm8 Nc G K
theorem jD:Obl P f0 (fun v h=>R v h) keep K [.run 2] ((AM.mk (RF 7 10 (.node .leaf none (.node .leaf (some (.str nm8)) .leaf)) td) ((jz off len cp i kk kv gt nm7 Nc)::rest) ⟨O,N,G⟩))=(K (AM.mk (enF 9 [.ptr 4 0 0,.agg [.str [UInt8.ofNat 107,UInt8.ofNat 101,UInt8.ofNat 121],.int .i64 (kk.tmod (1000:Int))],.str nm8]) ((qS off len cp i kk kv gt nm7 nm8 Nc)::rest) ⟨O,N,G⟩)):=by kernel_rfl
theorem vq:Obl P f0 (fun v h=>R v h) keep K [.run 8,.op,.run 1,.hop (.int .i64 kv) O,.run 1] ((AM.mk (RF 9 53 .leaf td) ((qS off len cp i kk kv gt nm7 nm8 Nc)::rest) ⟨O,N,G⟩))=(((0:Int)≤i∧i<(↑len:Int))∧(za (⟨O,N,G⟩) 0 0 (off+i.toNat*3+2) 1=(some [.int .i64 kv]))∧K (AM.mk (enF 10 [.ptr 5 0 0,.int .i64 (kk.tmod (1000:Int)),.int .i64 kv]) ((yL off len cp i kk kv gt nm7 nm8 Nc)::rest) ⟨O,N,G⟩)):=by kernel_rfl
theorem qI:Obl P f0 (fun v h=>R v h) keep K [.run 9,.keep [1,5,6,7,8,9]] ((AM.mk (RF 10 55 .leaf td) ((yL off len cp i kk kv gt nm7 nm8 Nc)::rest) ⟨O,N,G⟩))=(K (WK off len cp (IntKind.i64.wrap (i+(1:Int))) rest O N G)):=by kernel_rfl
end
theorem zkc (R:AV→AHeap→Prop)(keep:Nat)(f0:FuncId)(rest:List AFrame)(N:Nat)(O:T AObj)(off:Nat)(len:Nat)(cp:Nat)(i:Int)(kk:Int)(gt:Bool)(G:T (T AV))(K:AM→Prop):Obl P f0 (fun v h=>R v h) keep K [.run 8,.know 33 true,.run 4,.know 36 true,.run 8,.op,.run 1,.hop (.int .i64 kk) O,.run 9,.know 46 false,.run 7,.op,.run 1,.hop (.bool gt) O,.run 2,.know 54 false,.run 8] ((WK off len cp i rest O N G))=((decide (i<(↑len:Int))=true)∧(decide (i<(100:Int))=true)∧((0:Int)≤i∧i<(↑len:Int))∧(za (⟨O,N,G⟩) 0 0 (off+i.toNat*3+1) 1=(some [.int .i64 kk]))∧(decide (kk.tmod (1000:Int)<(0:Int))=false)∧((0:Int)≤i∧i<(↑len:Int))∧(za (⟨O,N,G⟩) 0 0 (off+i.toNat*3) 1=(some [.bool gt]))∧((!gt)=false)∧K (AM.mk (enF 7 [.int .i64 (kk.tmod (1000:Int))]) ((zjA off len cp i kk gt)::rest) ⟨O,N,G⟩)):=by kernel_rfl
theorem zf8 (R:AV→AHeap→Prop)(keep:Nat)(f0:FuncId)(rest:List AFrame)(td:List AItem)(N:Nat)(O:T AObj)(off:Nat)(len:Nat)(cp:Nat)(i:Int)(kk:Int)(gt:Bool)(nm7:List UInt8)(G:T (T AV))(K:AM→Prop):Obl P f0 (fun v h=>R v h) keep K [.run 2] ((AM.mk (RF 7 10 (.node .leaf none (.node .leaf (some (.str nm7)) .leaf)) td) ((zjA off len cp i kk gt)::rest) ⟨O,N,G⟩))=(K (AM.mk (enF 11 [.ptr 2 0 0,.str nm7]) ((zdV off len cp i kk gt nm7)::rest) ⟨O,N,G⟩)):=by kernel_rfl
theorem kD (R:AV→AHeap→Prop)(keep:Nat)(f0:FuncId)(rest:List AFrame)(td:List AItem)(N:Nat)(O:T AObj)(off:Nat)(len:Nat)(cp:Nat)(i:Int)(kk:Int)(gt:Bool)(bb:Bool)(sv:AV)(nm7:List UInt8)(G:T (T AV))(K:AM→Prop):Obl P f0 (fun v h=>R v h) keep K [.run 13] ((AM.mk (RF 11 25 (.node (.node .leaf none (.node .leaf (some (.bool bb)) .leaf)) none (.node (.node .leaf (some (sv)) .leaf) none .leaf)) td) ((zdV off len cp i kk gt nm7)::rest) ⟨O,N,G⟩))=(K (AM.mk (enF 12 [.ptr 4 0 0,.agg [.str [UInt8.ofNat 107,UInt8.ofNat 101,UInt8.ofNat 121],.int .i64 (kk.tmod (1000:Int))]]) ((jt off len cp i kk gt bb sv nm7)::rest) ⟨O,N,G⟩)):=by kernel_rfl
theorem qC (R:AV→AHeap→Prop)(keep:Nat)(f0:FuncId)(rest:List AFrame)(td:List AItem)(N:Nat)(O:T AObj)(off:Nat)(len:Nat)(cp:Nat)(i:Int)(kk:Int)(gt:Bool)(bb:Bool)(sv:AV)(sn:List UInt8)(nm7:List UInt8)(G:T (T AV))(K:AM→Prop):Obl P f0 (fun v h=>R v h) keep K [.run 12] ((AM.mk (RF 12 25 (.node (.node .leaf none (.node .leaf (some (.bool bb)) .leaf)) none (.node (.node .leaf (some (.str sn)) .leaf) none .leaf)) td) ((jt off len cp i kk gt bb sv nm7)::rest) ⟨O,N,G⟩))=(K (AM.mk (enF 13 [.ptr 5 0 0,.int .i64 (kk.tmod (1000:Int))]) ((xQ off len cp i kk gt bb sv sn nm7)::rest) ⟨O,N,G⟩)):=by kernel_rfl
theorem qv (R:AV→AHeap→Prop)(keep:Nat)(f0:FuncId)(rest:List AFrame)(td:List AItem)(N:Nat)(O:T AObj)(off:Nat)(len:Nat)(cp:Nat)(i:Int)(kk:Int)(gt:Bool)(bb:Bool)(sv:AV)(sn:List UInt8)(xv:Int)(nm7:List UInt8)(z1:Int)(G:T (T AV))(K:AM→Prop):Obl P f0 (fun v h=>R v h) keep K [.run 13,.know 111 false,.run 5,.know 116 false,.run 2,.know 118 false,.run 25,.know 143 true,.run 1,.hopn (.int .i64 z1) O (N),.run 2,.know 147 false,.run 6,.know 152 false,.run 9,.keep [1,5,6,7,8,9]] ((AM.mk (RF 13 21 (.node (.node .leaf none (.node .leaf (some (.bool bb)) .leaf)) none (.node (.node .leaf (some (.int .i64 xv)) .leaf) none .leaf)) td) ((xQ off len cp i kk gt bb sv sn nm7)::rest) ⟨O,N,G⟩))=(((!bb==bb)=false)∧((!bb==bb)=false)∧(bb=false)∧((!bb)=true)∧(xd P (⟨O,N,G⟩) (Builtin.len) ((some 25)) ([sv])=(some (.int .i64 z1)))∧((z1 != (0:Int))=false)∧((!sn==([]:List UInt8))=false)∧K (WK off len cp (IntKind.i64.wrap (i+(1:Int))) rest O N G)):=by kernel_rfl
theorem qj (R:AV→AHeap→Prop)(keep:Nat)(f0:FuncId)(rest:List AFrame)(td:List AItem)(N:Nat)(O:T AObj)(off:Nat)(len:Nat)(cp:Nat)(i:Int)(kk:Int)(gt:Bool)(bb:Bool)(sv:AV)(sn:List UInt8)(xv:Int)(nm7:List UInt8)(i1:Nat)(i2:Nat)(i3:Nat)(z1:Int)(z2:Int)(G:T (T AV))(K:AM→Prop):Obl P f0 (fun v h=>R v h) keep K [.run 13,.know 111 false,.run 5,.know 116 false,.run 2,.know 118 true,.run 1,.hopn (.int .i64 z1) O (N),.run 2,.know 122 false,.run 1,.hopn (.ptr i1 i2 i3) O (N),.hop (.int .i64 z2) O,.run 4,.know 129 false,.run 6] ((AM.mk (RF 13 21 (.node (.node .leaf none (.node .leaf (some (.bool bb)) .leaf)) none (.node (.node .leaf (some (.int .i64 xv)) .leaf) none .leaf)) td) ((xQ off len cp i kk gt bb sv sn nm7)::rest) ⟨O,N,G⟩))=(((!bb==bb)=false)∧((!bb==bb)=false)∧(bb=true)∧(xd P (⟨O,N,G⟩) (Builtin.len) ((some 25)) ([sv])=(some (.int .i64 z1)))∧((z1 != (1:Int))=false)∧(zm P 25 (sv) (.int .i64 0)=(some (.ptr i1 i2 i3)))∧(za (⟨O,N,G⟩) (i1) (i2) (i3) 1=(some [.int .i64 z2]))∧((z2 != xv)=false)∧K (AM.mk (enF 7 [.int .i64 (IntKind.i64.wrap (xv.tmod (500:Int)+(500:Int)))]) ((xT off len cp i kk gt bb i1 i2 i3 z1 z2 sv sn xv nm7)::rest) ⟨O,N,G⟩)):=by kernel_rfl
theorem yl (R:AV→AHeap→Prop)(keep:Nat)(f0:FuncId)(rest:List AFrame)(td:List AItem)(N:Nat)(O:T AObj)(off:Nat)(len:Nat)(cp:Nat)(i:Int)(kk:Int)(gt:Bool)(bb:Bool)(sv:AV)(sn:List UInt8)(xv:Int)(nm7:List UInt8)(nm8:List UInt8)(i1c:Nat)(i2c:Nat)(i3c:Nat)(z1c:Int)(z2c:Int)(G:T (T AV))(K:AM→Prop):Obl P f0 (fun v h=>R v h) keep K [.run 6,.know 140 false,.run 3,.know 143 false,.run 19,.keep [1,5,6,7,8,9]] ((AM.mk (RF 7 10 (.node .leaf none (.node .leaf (some (.str nm8)) .leaf)) td) ((xT off len cp i kk gt bb i1c i2c i3c z1c z2c sv sn xv nm7)::rest) ⟨O,N,G⟩))=(((!sn==nm8)=false)∧((!bb)=false)∧K (WK off len cp (IntKind.i64.wrap (i+(1:Int))) rest O N G)):=by kernel_rfl
theorem zj8 (R:AV→Prop)(kept:Int)(N:Nat)(O:T AObj)(off:Nat)(len:Nat)(cp:Nat)(i:Int)(G:T (T AV))(_K:AM→Prop):Obl P 3 (fun v _=>R v) 0 _K [.run 8,.know 33 true,.run 4,.know 36 false,.run 8,.hop (.nils 0 0) O,.run 19,.hop (.int .i64 kept) O,.run 3,.hret [.nilp],.run 2,.know 161 true,.run 4,.hop (.nils 0 0) O,.run 19,.hop (.int .i64 kept) O,.run 3,.hret [.nilp],.run 3,.know 171 true,.run 1,.callv [] (.bool true),.run 4,.done] ((WK off len cp i [] O N G))=((decide (i<(↑len:Int))=true)∧(decide (i<(100:Int))=false)∧(za (⟨O,N,G⟩) 5 0 1 1=(some [.nils 0 0]))∧(za (⟨O,N,G⟩) 2 0 1 1=(some [.int .i64 kept]))∧(True)∧(some (AV.int .i64 (Int.ofNat 0))=some (AV.int .i64 (Int.ofNat 0)))∧(za (⟨O,N,G⟩) 5 0 1 1=(some [.nils 0 0]))∧((kept==Int.ofNat 0)=true)∧(za (⟨O,N,G⟩) 5 0 1 1=(some [.nils 0 0]))∧(za (⟨O,N,G⟩) 4 0 1 1=(some [.int .i64 kept]))∧(True)∧(some (AV.int .i64 (Int.ofNat 0))=some (AV.int .i64 (Int.ofNat 0)))∧(za (⟨O,N,G⟩) 5 0 1 1=(some [.nils 0 0]))∧((kept==Int.ofNat 0)=true)∧(Goal P 0 16 (fun x x_1=>x=AV.bool true) (zP P 16 [] G))∧(R (.bool true))):=by kernel_rfl
theorem zls (R:AV→Prop)(kept:Int)(N:Nat)(O:T AObj)(off:Nat)(len:Nat)(cp:Nat)(i:Int)(G:T (T AV))(_K:AM→Prop):Obl P 3 (fun v _=>R v) 0 _K [.run 8,.know 33 false,.run 12,.hop (.nils 0 0) O,.run 19,.hop (.int .i64 kept) O,.run 3,.hret [.nilp],.run 2,.know 161 true,.run 4,.hop (.nils 0 0) O,.run 19,.hop (.int .i64 kept) O,.run 3,.hret [.nilp],.run 3,.know 171 true,.run 1,.callv [] (.bool true),.run 4,.done] ((WK off len cp i [] O N G))=((decide (i<(↑len:Int))=false)∧(za (⟨O,N,G⟩) 5 0 1 1=(some [.nils 0 0]))∧(za (⟨O,N,G⟩) 2 0 1 1=(some [.int .i64 kept]))∧(True)∧(some (AV.int .i64 (Int.ofNat 0))=some (AV.int .i64 (Int.ofNat 0)))∧(za (⟨O,N,G⟩) 5 0 1 1=(some [.nils 0 0]))∧((kept==Int.ofNat 0)=true)∧(za (⟨O,N,G⟩) 5 0 1 1=(some [.nils 0 0]))∧(za (⟨O,N,G⟩) 4 0 1 1=(some [.int .i64 kept]))∧(True)∧(some (AV.int .i64 (Int.ofNat 0))=some (AV.int .i64 (Int.ofNat 0)))∧(za (⟨O,N,G⟩) 5 0 1 1=(some [.nils 0 0]))∧((kept==Int.ofNat 0)=true)∧(Goal P 0 16 (fun x x_1=>x=AV.bool true) (zP P 16 [] G))∧(R (.bool true))):=by kernel_rfl
theorem zkj (R:AV→Prop)(kept:Int)(N:Nat)(O:T AObj)(off:Nat)(len:Nat)(cp:Nat)(i:Int)(pj:Nat)(pz:Nat)(po:Nat)(pm:Nat)(pc:Nat)(G:T (T AV))(_K:AM→Prop):Obl P 3 (fun v _=>R v) 0 _K [.run 8,.know 33 true,.run 4,.know 36 false,.run 8,.hop (.slc pj pz po pm pc) O,.run 19,.hop (.int .i64 kept) O,.run 3,.hret [.nilp],.run 2,.know 161 true,.run 4,.hop (.slc pj pz po pm pc) O,.run 19,.hop (.int .i64 kept) O,.run 3,.hret [.nilp],.run 3,.know 171 true,.run 1,.callv [] (.bool true),.run 4,.done] ((WK off len cp i [] O N G))=((decide (i<(↑len:Int))=true)∧(decide (i<(100:Int))=false)∧(za (⟨O,N,G⟩) 5 0 1 1=(some [.slc pj pz po pm pc]))∧(za (⟨O,N,G⟩) 2 0 1 1=(some [.int .i64 kept]))∧(True)∧(some (AV.int .i64 (↑pm:Int))=some (AV.int .i64 (↑pm:Int)))∧(za (⟨O,N,G⟩) 5 0 1 1=(some [.slc pj pz po pm pc]))∧((kept==(↑pm:Int))=true)∧(za (⟨O,N,G⟩) 5 0 1 1=(some [.slc pj pz po pm pc]))∧(za (⟨O,N,G⟩) 4 0 1 1=(some [.int .i64 kept]))∧(True)∧(some (AV.int .i64 (↑pm:Int))=some (AV.int .i64 (↑pm:Int)))∧(za (⟨O,N,G⟩) 5 0 1 1=(some [.slc pj pz po pm pc]))∧((kept==(↑pm:Int))=true)∧(Goal P 0 16 (fun x x_1=>x=AV.bool true) (zP P 16 [] G))∧(R (.bool true))):=by kernel_rfl
theorem zlf (R:AV→Prop)(kept:Int)(N:Nat)(O:T AObj)(off:Nat)(len:Nat)(cp:Nat)(i:Int)(pj:Nat)(pz:Nat)(po:Nat)(pm:Nat)(pc:Nat)(G:T (T AV))(_K:AM→Prop):Obl P 3 (fun v _=>R v) 0 _K [.run 8,.know 33 false,.run 12,.hop (.slc pj pz po pm pc) O,.run 19,.hop (.int .i64 kept) O,.run 3,.hret [.nilp],.run 2,.know 161 true,.run 4,.hop (.slc pj pz po pm pc) O,.run 19,.hop (.int .i64 kept) O,.run 3,.hret [.nilp],.run 3,.know 171 true,.run 1,.callv [] (.bool true),.run 4,.done] ((WK off len cp i [] O N G))=((decide (i<(↑len:Int))=false)∧(za (⟨O,N,G⟩) 5 0 1 1=(some [.slc pj pz po pm pc]))∧(za (⟨O,N,G⟩) 2 0 1 1=(some [.int .i64 kept]))∧(True)∧(some (AV.int .i64 (↑pm:Int))=some (AV.int .i64 (↑pm:Int)))∧(za (⟨O,N,G⟩) 5 0 1 1=(some [.slc pj pz po pm pc]))∧((kept==(↑pm:Int))=true)∧(za (⟨O,N,G⟩) 5 0 1 1=(some [.slc pj pz po pm pc]))∧(za (⟨O,N,G⟩) 4 0 1 1=(some [.int .i64 kept]))∧(True)∧(some (AV.int .i64 (↑pm:Int))=some (AV.int .i64 (↑pm:Int)))∧(za (⟨O,N,G⟩) 5 0 1 1=(some [.slc pj pz po pm pc]))∧((kept==(↑pm:Int))=true)∧(Goal P 0 16 (fun x x_1=>x=AV.bool true) (zP P 16 [] G))∧(R (.bool true))):=by kernel_rfl
theorem zkx (R:AV→Prop)(kept:Int)(N:Nat)(O:T AObj)(off:Nat)(len:Nat)(cp:Nat)(i:Int)(pj:Nat)(pz:Nat)(po:Nat)(pm:Nat)(pt:Nat)(G:T (T AV))(_K:AM→Prop):Obl P 3 (fun v _=>R v) 0 _K [.run 8,.know 33 true,.run 4,.know 36 false,.run 8,.hop (.slg pj pz po pm pt) O,.run 19,.hop (.int .i64 kept) O,.run 3,.hret [.nilp],.run 2,.know 161 true,.run 4,.hop (.slg pj pz po pm pt) O,.run 19,.hop (.int .i64 kept) O,.run 3,.hret [.nilp],.run 3,.know 171 true,.run 1,.callv [] (.bool true),.run 4,.done] ((WK off len cp i [] O N G))=((decide (i<(↑len:Int))=true)∧(decide (i<(100:Int))=false)∧(za (⟨O,N,G⟩) 5 0 1 1=(some [.slg pj pz po pm pt]))∧(za (⟨O,N,G⟩) 2 0 1 1=(some [.int .i64 kept]))∧(True)∧(some (AV.int .i64 (↑pm:Int))=some (AV.int .i64 (↑pm:Int)))∧(za (⟨O,N,G⟩) 5 0 1 1=(some [.slg pj pz po pm pt]))∧((kept==(↑pm:Int))=true)∧(za (⟨O,N,G⟩) 5 0 1 1=(some [.slg pj pz po pm pt]))∧(za (⟨O,N,G⟩) 4 0 1 1=(some [.int .i64 kept]))∧(True)∧(some (AV.int .i64 (↑pm:Int))=some (AV.int .i64 (↑pm:Int)))∧(za (⟨O,N,G⟩) 5 0 1 1=(some [.slg pj pz po pm pt]))∧((kept==(↑pm:Int))=true)∧(Goal P 0 16 (fun x x_1=>x=AV.bool true) (zP P 16 [] G))∧(R (.bool true))):=by kernel_rfl
theorem zlA (R:AV→Prop)(kept:Int)(N:Nat)(O:T AObj)(off:Nat)(len:Nat)(cp:Nat)(i:Int)(pj:Nat)(pz:Nat)(po:Nat)(pm:Nat)(pt:Nat)(G:T (T AV))(_K:AM→Prop):Obl P 3 (fun v _=>R v) 0 _K [.run 8,.know 33 false,.run 12,.hop (.slg pj pz po pm pt) O,.run 19,.hop (.int .i64 kept) O,.run 3,.hret [.nilp],.run 2,.know 161 true,.run 4,.hop (.slg pj pz po pm pt) O,.run 19,.hop (.int .i64 kept) O,.run 3,.hret [.nilp],.run 3,.know 171 true,.run 1,.callv [] (.bool true),.run 4,.done] ((WK off len cp i [] O N G))=((decide (i<(↑len:Int))=false)∧(za (⟨O,N,G⟩) 5 0 1 1=(some [.slg pj pz po pm pt]))∧(za (⟨O,N,G⟩) 2 0 1 1=(some [.int .i64 kept]))∧(True)∧(some (AV.int .i64 (↑pm:Int))=some (AV.int .i64 (↑pm:Int)))∧(za (⟨O,N,G⟩) 5 0 1 1=(some [.slg pj pz po pm pt]))∧((kept==(↑pm:Int))=true)∧(za (⟨O,N,G⟩) 5 0 1 1=(some [.slg pj pz po pm pt]))∧(za (⟨O,N,G⟩) 4 0 1 1=(some [.int .i64 kept]))∧(True)∧(some (AV.int .i64 (↑pm:Int))=some (AV.int .i64 (↑pm:Int)))∧(za (⟨O,N,G⟩) 5 0 1 1=(some [.slg pj pz po pm pt]))∧((kept==(↑pm:Int))=true)∧(Goal P 0 16 (fun x x_1=>x=AV.bool true) (zP P 16 [] G))∧(R (.bool true))):=by kernel_rfl
abbrev R0 (v:AV):Prop:=v=AV.bool true
abbrev GK (m:AM):Prop:=Goal P 0 3 (fun v _=>R0 v) m
theorem yQ {G:T (T AV)}:Goal P 0 16 (fun x _=>x=AV.bool true) (zP P 16 [] G):=Goal.ofRun mix (n:=40000) (by kernel_rfl) fun _=>rfl
abbrev Act:=Bool × Int × Int
def arow (q:gx.Act):List AV:=[.bool q.1,.int .i64 q.2.1,.int .i64 q.2.2]
def zcg (act:Nat→gx.Act) (j:Nat):AV:=(arow (act (j / 3))).getD (j % 3) z8
def ziX (O:T AObj) (act:Nat→gx.Act) (off cap:Nat):Prop:=O.get 0=some (.ro (.fn fun j=>some (zcg act (j - off))) off (off+cap*3))
def nm (k:Int):List UInt8:=[UInt8.ofNat (IntKind.u8.wrap k).toNat,UInt8.ofNat (IntKind.u8.wrap (IntKind.i64.wrap (k.tdiv (256:Int)))).toNat]
def kOf (k:Int):Int:=(((k.tmod 1000).natAbs:Nat):Int)
theorem zbS (k:Int):0≤kOf k∧kOf k<1000:=by
 unfold kOf
 have:=Int.tmod_lt_of_pos k (show (0:Int)<1000 by decide)
 have:=Int.lt_tmod_of_pos k (show (0:Int)<1000 by decide)
 omega
theorem zgz {a b:Int}(ha:0≤a∧a<1000)(hb:0≤b∧b<1000)(h:nm a=nm b):a=b:=by
 unfold nm at h
 rw [List.cons.injEq,List.cons.injEq] at h
 have e1:=congrArg UInt8.toNat h.1
 have e2:=congrArg UInt8.toNat h.2.1
 rw [UInt8.toNat_ofNat',UInt8.toNat_ofNat'] at e1 e2
 have ta:a.tdiv 256=a / 256:=Int.tdiv_eq_ediv_of_nonneg ha.1
 have tb:b.tdiv 256=b / 256:=Int.tdiv_eq_ediv_of_nonneg hb.1
 rw [ta,tb,IntKind.wrap_i64,IntKind.wrap_i64,IntKind.wrap_u8,IntKind.wrap_u8] at e2
 rw [IntKind.wrap_u8,IntKind.wrap_u8] at e1
 omega
theorem zjD {a b:Int}(ha:0≤a∧a<1000)(hb:0≤b∧b<1000):(nm a==nm b)=(a==b):=by
 by_cases h:a=b
 · rw [h,beq_self_eq_true,beq_self_eq_true]
 · rw [beq_eq_false_iff_ne.2 h,beq_eq_false_iff_ne.2 fun e=>h (zgz ha hb e)]
def kw:List UInt8:=[UInt8.ofNat (107),UInt8.ofNat (101),UInt8.ofNat (121)]
theorem zji {a b:Int}:(((kw,a):Key)==(kw,b))=(a==b):=by
 show (kw==kw&&a==b)=_
 rw [beq_self_eq_true,Bool.true_and]
def zdE (k:Int):List AV:=[.int .i64 k]
theorem iE:Enc 1 zdE:=⟨fun _=>rfl,fun _=>rfl,by decide⟩
theorem iS:SlT 25 3 1 8:=SlT.mk' (by kernel_rfl) (by kernel_rfl) (by kernel_rfl) (by kernel_rfl) (by kernel_rfl) rfl rfl
theorem iLit (k:Int)(h:AHeap):zg P h 25 1 [(0,.int .i64 k)]=some (.slc h.next 0 0 1 1,zV h 3 (zdE k) false):=by kernel_rfl
variable {O O':T AObj} {N c m:Nat} {G:T (T AV)} {act:Nat→gx.Act} {off cap len i:Nat} {ps:AV} {k:Int}
theorem zR (h:ziX O act off cap)(hi:i<cap)(u:Nat)(hu:u<3)(N:Nat)(G:T (T AV)):za ⟨O,N,G⟩ 0 0 (off+((i:Nat):Int).toNat*3+u) 1=some [(arow (act i)).getD u z8]:=by
 refine zkH h (by omega) (by omega) ?_
 show some (zcg act (off+((i:Nat):Int).toNat*3+u - off))=_
 rw [show off+((i:Nat):Int).toNat*3+u - off=i*3+u by omega]
 unfold zcg
 rw [show (i*3+u) / 3=i by omega,show (i*3+u) % 3=u by omega]
theorem y6 (h:ziX O act off cap)(hi:i<cap)(N:Nat)(G:T (T AV)):za ⟨O,N,G⟩ 0 0 (off+((i:Nat):Int).toNat*3) 1=some [.bool (act i).1]:=zR h hi 0 (by omega) N G
theorem qV {keep:Nat}{f0:FuncId}{Q:AV→AHeap→Prop}{rest:List AFrame}(hK:∀ (O':T AObj) (td:List AItem),(∀ j,j<N→O'.get j=O.get j)→Goal P keep f0 Q (AM.mk (RF 7 10 (.node .leaf none (.node .leaf (some (.str (nm k))) .leaf)) td) rest ⟨O',N+1,G⟩)) :
 Goal P keep f0 Q (AM.mk (enF 7 [.int .i64 k]) rest ⟨O,N,G⟩):=by
 have hb:zg P ⟨O,N,G⟩ 32 2 [(0,.int .u8 (IntKind.u8.wrap k)),(1,.int .u8 (IntKind.u8.wrap (IntKind.i64.wrap (k.tdiv (256:Int)))))]=some (.slc N 0 0 2 2,zV ⟨O,N,G⟩ 5 [.int .u8 (IntKind.u8.wrap k),.int .u8 (IntKind.u8.wrap (IntKind.i64.wrap (k.tdiv (256:Int))))] false):=by kernel_rfl
 have rd:Rd (O.set (some (.cells (zd .leaf 0 [.int .u8 (IntKind.u8.wrap k),.int .u8 (IntKind.u8.wrap (IntKind.i64.wrap (k.tdiv (256:Int))))]) 2 5 0 0 1 0 false .leaf)) N) N 0 0 [.int .u8 (IntKind.u8.wrap k),.int .u8 (IntKind.u8.wrap (IntKind.i64.wrap (k.tdiv (256:Int))))] :=
  .inl ⟨_,_,_,_,_,_,_,_,_,2,by rw [T.get_set,if_pos rfl],by unfold zj; rw [if_pos rfl],Nat.le_refl _,Nat.le_refl _,Nat.le_refl _,At.stored _ _ _⟩
 have hc:=rd.load (n:=2) rfl (N+1) G
 refine (Obl.goal mix (K:=Goal P keep f0 Q) (fun _ h=>h) (cast (q_nm Q keep f0 rest N O k (O.set (some (.cells (zd .leaf 0 [.int .u8 (IntKind.u8.wrap k),.int .u8 (IntKind.u8.wrap (IntKind.i64.wrap (k.tdiv (256:Int))))]) 2 5 0 0 1 0 false .leaf)) N) (nm k) G (Goal P keep f0 Q)).symm ⟨hb,?_,hK _ _ fun j hj=>by rw [T.get_set,if_neg (by omega)]⟩))
 have hcv:∀ h:AHeap,zb9 P h 32 9 (.slc N 0 0 2 2)=xy (za h N 0 0 2):=fun h=>by kernel_rfl
 rw [hcv,hc]
 rfl
abbrev Y:=Int × Int × AV
def yx (y:Y):Int × Int:=(y.1,y.2.1)
def yA (y:Y):List UInt8 × List AV:=(nm y.1,[y.2.2])
def yB (y:Y):Key × List AV:=((kw,y.1),[.str (nm (IntKind.i64.wrap (y.2.1.tmod 500+500)))])
def zfH (cap:Nat) (k:Int) (w:Int × AV) (ys:List Y):List Y:=if cap=0 then ys else (k,w)::(ys.filter fun q=>!(q.1==k)).take (cap - 1)
theorem ze5 {y:Y}{w:Int × AV}{ys:List Y}(h:y∈zfH c k w ys):y=(k,w)∨y∈ys:=by
 unfold zfH at h
 split at h
 · exact .inr h
 · rcases List.mem_cons.1 h with h | h
   · exact .inl h
   · exact .inr (List.mem_filter.1 (List.mem_of_mem_take h)).1
theorem zfc {w:Int × AV}{ys:List Y}:(zfH c k w ys).length≤ys.length+1:=by
 unfold zfH
 split
 · omega
 · rw [List.length_cons,List.length_take]
   have:=List.length_filter_le (fun q:Y=>!(q.1==k)) ys
   omega
theorem w9 {α β:Type}(f:α→β)(p:β→Bool)(q:α→Bool):∀ l:List α,(∀ x∈l,p (f x)=q x)→(l.map f).filter p=(l.filter q).map f
 | [],_=>rfl
 | a::r,h=>by
  rw [List.map_cons,List.filter_cons,List.filter_cons,h a List.mem_cons_self,w9 f p q r fun x hx=>h x (List.mem_cons_of_mem _ hx)]
  split <;> simp
theorem jW {κ:Type} [BEq κ] [LawfulBEq κ] (f:Y→κ × List AV){w:Int × AV}{ys:List Y}(h:∀ y∈ys,((f y).1==(f (k,w)).1)=(y.1==k)):ziB c (f (k,w)).1 (f (k,w)).2 (ys.map f)=(zfH c k w ys).map f:=by
 unfold ziB zfH
 split
 · rfl
 · rw [List.map_cons,List.map_take,w9 f (fun q=>!(q.1==(f (k,w)).1)) (fun q=>!(q.1==k)) ys fun y hy=>by rw [h y hy]]
theorem zjl {w:Int × AV}{ys:List Y}:zbX c k w.1 (ys.map yx)=(zfH c k w ys).map yx:=by
 unfold zbX zfH
 split
 · rfl
 · rw [List.map_cons,List.map_take,w9 yx (fun q=>!(q.1==k)) (fun q=>!(q.1==k)) ys fun y hy=>rfl]
   rfl
theorem zaG {α β:Type}{f:α→β}:∀ {l:List α} {us:List β} {b:β} {ws:List β},l.map f=us++b::ws→∃ u a w,l=u++a::w∧u.map f=us∧f a=b∧w.map f=ws
 | [],us,b,ws,h=>by
  have:=congrArg List.length h
  simp at this
 | x::r,[],b,ws,h=>by
  rw [List.map_cons,List.nil_append,List.cons.injEq] at h
  exact ⟨[],x,r,rfl,rfl,h.1,h.2⟩
 | x::r,u::us,b,ws,h=>by
  rw [List.map_cons,List.cons_append,List.cons.injEq] at h
  obtain ⟨v,a,w,e1,e2,e3,e4⟩:=zaG h.2
  exact ⟨x::v,a,w,by rw [e1]; rfl,by rw [List.map_cons,h.1,e2],e3,e4⟩
theorem jd {α β:Type}{f:α→β}{a:α}:∀ {u w u' w':List α},((u'++a::w').map f).Nodup→u++a::w=u'++a::w'→u=u'∧w=w'
 | [],w,[],w',_,e=>⟨rfl,(List.cons.inj e).2⟩
 | [],w,x::u',w',h,e=>by
  exfalso
  obtain ⟨e1,e2⟩:=List.cons.inj e
  rw [List.cons_append,List.map_cons,List.nodup_cons,← e1] at h
  exact h.1 (List.mem_map_of_mem (by simp))
 | x::u,w,[],w',h,e=>by
  exfalso
  obtain ⟨e1,e2⟩:=List.cons.inj e
  rw [List.nil_append,List.map_cons,List.nodup_cons,← e2] at h
  exact h.1 (List.mem_map_of_mem (by simp))
 | x::u,w,y::u',w',h,e=>by
  obtain ⟨e1,e2⟩:=List.cons.inj e
  rw [List.cons_append,List.map_cons,List.nodup_cons] at h
  obtain ⟨h1,h2⟩:=jd h.2 e2
  exact ⟨by rw [e1,h1],h2⟩
theorem x6 {α β:Type}{f:α→β}:∀ {l:List α},(l.map f).Nodup→l.Nodup
 | [],_=>List.nodup_nil
 | a::r,h=>by
  rw [List.map_cons,List.nodup_cons] at h
  rw [List.nodup_cons]
  exact ⟨fun hm=>h.1 (List.mem_map_of_mem hm),x6 h.2⟩
structure InvK (O:T AObj) (N:Nat) (act:Nat→gx.Act) (off cap c m:Nat) (ys:List Y) (LA:List (Ent (List UInt8))) (LB:List (Ent Key)) (ps:AV):Prop where
 ro:ziX O act off cap
 a:LR O kS kcS 1 2 1 c LA
 b:LR O kK kcK 1 4 3 c LB
 r:Obj O 5 [.int .i64 (c:Int),ps]
 p:PV O 6 N (ys.map yx) ps
 hN:6≤N
 ia:∀ x∈LA,6≤x.1∧x.1<N
 ib:∀ x∈LB,6≤x.1∧x.1<N
 ab:∀ x∈LA,∀ y∈LB,x.1≠y.1
 pa:∀ x∈LA,ps≠.nils 0 0→x.1≠sid ps
 pb:∀ x∈LB,ps≠.nils 0 0→x.1≠sid ps
 ra:LA.map (·.2)=ys.map yA
 rb:LB.map (·.2)=ys.map yB
 hy0:∀ y∈ys,0≤y.1∧y.1<1000
 va:∀ y∈ys,SV O 1 zdE 6 N [y.2.1] y.2.2∧y.2.2≠.nils 0 0∧(∀ x∈LA,x.1≠sid y.2.2)∧∀ x∈LB,x.1≠sid y.2.2
 hm:ys.length≤m
section
variable {ys:List Y} {LA:List (Ent (List UInt8))} {LB:List (Ent Key)}
theorem InvK.lenx (h:InvK O N act off cap c m ys LA LB ps):ys.length≤c:=by
 have:=congrArg List.length h.ra
 rw [List.length_map,List.length_map] at this
 have:=h.a.2.2.2.2.2.2.2.2.2
 omega
theorem zjp (h:InvK O N act off cap c m ys LA LB ps):LA.length≤m:=by
 have:=congrArg List.length h.ra
 rw [List.length_map,List.length_map] at this
 have:=h.hm
 omega
theorem lenB (h:InvK O N act off cap c m ys LA LB ps):LB.length≤m:=by
 have:=congrArg List.length h.rb
 rw [List.length_map,List.length_map] at this
 have:=h.hm
 omega
theorem lenY (h:InvK O N act off cap c m ys LA LB ps):ys.length≤m:=h.hm
theorem InvK.same {N':Nat}(h:InvK O N act off cap c m ys LA LB ps)(hN':N≤N')(e:∀ j,j<N→O'.get j=O.get j):InvK O' N' act off cap c m ys LA LB ps:=by
 obtain ⟨ro,ha,hb,hr,hp,hN,ia,ib,ab,pa,pb,ra,rb,hy,va,hm⟩:=h
 refine ⟨(e 0 (by omega)).trans ro,ha.low (N:=N) (by omega) (by omega) (fun x hx=>(ia x hx).2) e,hb.low (N:=N) (by omega) (by omega) (fun x hx=>(ib x hx).2) e,hr.same (e 5 (by omega)),hp.keep (fun j _ hj=>e j hj) (Nat.le_refl _) hN',by omega,fun x hx=>⟨(ia x hx).1,by have:=(ia x hx).2; omega⟩,fun x hx=>⟨(ib x hx).1,by have:=(ib x hx).2; omega⟩,ab,pa,pb,ra,rb,hy,fun y hy=>?_,hm⟩
 obtain ⟨q1,q2,q3,q4⟩:=va y hy
 exact ⟨q1.keep (fun j _ hj=>e j hj) (Nat.le_refl _) hN',q2,q3,q4⟩
theorem put_y (h:InvK O N act off cap c i ys LA LB ps)(hi:i<len)(hl:len≤cap)(h1:i<100)(hk:((act i).2.1).tmod 1000<0)
 (hK:∀ O' N' ys' LA' LB' ps',InvK O' N' act off cap c (i+1) ys' LA' LB' ps'→GK (WK off len cap ((i+1:Nat):Int) [] O' N' G)) (hg:(act i).1=false):GK (WK off len cap ((i:Nat):Int) [] O N G):=by
 have hxl:=h.lenx
 have hall:=h
 obtain ⟨ro,ha,hb,hr,hp,hN,ia,ib,ab,pa,pb,ra,rb,hy0,va,hm⟩:=h
 have w:IntKind.i64.wrap (((i:Nat):Int)+(1:Int))=((i+1:Nat):Int):=by rw [IntKind.wrap_i64]; omega
 have bi:(0:Int)≤((i:Nat):Int)∧((i:Nat):Int)<((len:Nat):Int):=⟨by omega,by omega⟩
 have hke:(IntKind.i64.wrap ((0:Int) - ((act i).2.1).tmod (1000:Int)))=kOf (act i).2.1:=by
  unfold kOf
  have:=Int.tmod_lt_of_pos (act i).2.1 (show (0:Int)<1000 by decide)
  have:=Int.lt_tmod_of_pos (act i).2.1 (show (0:Int)<1000 by decide)
  first | (rw [IntKind.wrap_i64]; omega) | omega
 have hkr:0≤kOf (act i).2.1∧kOf (act i).2.1<1000:=zbS _
 have l0:=y6 ro (show i<cap by omega) N G
 have l1:=zR ro (show i<cap by omega) 1 (by omega) N G
 have nAk:∀ x∈LA,6≤x.1:=fun x hx=>(ia x hx).1
 have nBk:∀ x∈LB,6≤x.1:=fun x hx=>(ib x hx).1
 have hsp:sid ps<N:=by
  by_cases hps:ps=.nils 0 0
  · rw [hps]; show 0<N; omega
  · exact (hp.sid_lt hps).2
 have hsp6:sid ps=0∨6≤sid ps:=by
  by_cases hps:ps=.nils 0 0
  · rw [hps]; exact .inl rfl
  · exact .inr (hp.sid_lt hps).1
 obtain ⟨O1,e1,v1,_,f1⟩:=zfo iE (el:=3) (act i).2.2 O N G (st:=25) (iLit (act i).2.2)
 have hI1:=hall.same (Nat.le_succ N) (fun j hj=>f1 j (by omega))
 refine (Obl.goal mix (K:=GK) (fun _ h=>h) (cast (zkY (fun v _=>R0 v) 0 3 [] N O off len cap ((i:Nat):Int) ((act i).2.1) ((act i).2.2) false O1 G GK).symm ⟨decide_eq_true (by omega),decide_eq_true (by omega),bi,l1,decide_eq_true (by omega),bi,by rw [l0,hg],rfl,bi,zR ro (show i<cap by omega) 2 (by omega) N G,e1,zR hI1.ro (show i<cap by omega) 2 (by omega) (N+1) G,?_⟩))
 rw [hke]
 refine qV fun O2 td2 f2=>?_
 have hI2:=hI1.same (Nat.le_succ _) f2
 have v2:SV O2 1 zdE N (N+2) [(act i).2.2] (.slc N 0 0 1 1):=v1.keep (fun j _ hj=>f2 j (by omega)) (Nat.le_refl _) (by omega)
 refine (Obl.goal mix (K:=GK) (fun _ h=>h) (cast (zf5 (fun v _=>R0 v) 0 3 [] td2 (N+1+1) O2 off len cap ((i:Nat):Int) ((act i).2.1) ((act i).2.2) false (nm (kOf (act i).2.1)) N G GK).symm ⟨trivial,zR hI2.ro (show i<cap by omega) 2 (by omega) (N+1+1) G,?_⟩))
 have ro2:=hI2.ro
 refine zia hI2.a (by omega) (by omega) (fun x hx=>(hI2.ia x hx).2) (by have:=ha.2.2.2.2.2.2.2.2.2; have:=zjp hall; omega) rfl fun O3 N3 LA3 td3 ha3 hN3 ia3 pa3 fr3=>?_
 have lo3:∀ j,j<N+2→j≠2→j≠1→(∀ y∈LA,y.1≠j)→O3.get j=O2.get j:=fr3
 have ro3:ziX O3 act off cap:=(lo3 0 (by omega) (by omega) (by omega) (fun y hy=>by have:=nAk y hy; omega)).trans ro2
 have b3:LR O3 kK kcK 1 4 3 c LB:=hI2.b.same fun j hj=>by
  rcases hj with rfl | rfl | ⟨x,hx,rfl⟩
  · exact lo3 _ (by omega) (by omega) (by omega) fun y hy=>by have:=nAk y hy; omega
  · exact lo3 _ (by omega) (by omega) (by omega) fun y hy=>by have:=nAk y hy; omega
  · have:=ib x hx
    exact lo3 _ (by omega) (by omega) (by omega) fun y hy=>ab y hy x hx
 have r3:Obj O3 5 [.int .i64 (c:Int),ps]:=hI2.r.same (lo3 _ (by omega) (by omega) (by omega) fun y hy=>by have:=nAk y hy; omega)
 have p3:PV O3 6 N3 (ys.map yx) ps:=hI2.p.same (fun hn=>lo3 _ (by omega) (by have:=hp.sid_lt hn; omega) (by have:=hp.sid_lt hn; omega) fun y hy=>pa y hy hn) (Nat.le_refl _) hN3
 have v3:SV O3 1 zdE N N3 [(act i).2.2] (.slc N 0 0 1 1):=v2.same (fun _=>lo3 N (by omega) (by omega) (by omega) fun y hy=>by have:=ia y hy; omega) (Nat.le_refl _) hN3
 have ia3':∀ x∈LA3,6≤x.1∧x.1<N3∧x.1≠N∧(x.1<N→∃ y∈LA,y.1=x.1):=fun x hx=>by
  obtain ⟨q1,q2⟩:=ia3 x hx
  rcases q2 with q2 | ⟨y,hy,q2⟩
  · exact ⟨by omega,q1,by omega,fun hh=>by omega⟩
  · have:=ia y hy
    exact ⟨by omega,q1,by omega,fun _=>⟨y,hy,q2⟩⟩
 refine (Obl.goal mix (K:=GK) (fun _ h=>h) (cast (zcG (fun v _=>R0 v) 0 3 [] td3 N3 O3 off len cap ((i:Nat):Int) ((act i).2.1) ((act i).2.2) false (nm (kOf (act i).2.1)) N G GK).symm ⟨bi,zR ro3 (show i<cap by omega) 2 (by omega) N3 G,?_⟩))
 refine qV fun O4 td4 f4=>?_
 refine (Obl.goal mix (K:=GK) (fun _ h=>h) (cast (jG (fun v _=>R0 v) 0 3 [] td4 (N3+1) O4 off len cap ((i:Nat):Int) ((act i).2.1) ((act i).2.2) false (nm (kOf (act i).2.1)) (nm (IntKind.i64.wrap ((act i).2.2.tmod (500:Int)+(500:Int)))) N G GK).symm ?_))
 rw [hke]
 have b4:=b3.low (N:=N3) (by omega) (by omega) (fun x hx=>by have:=ib x hx; omega) f4
 refine zgB b4 (by omega) (by omega) (fun x hx=>by have:=ib x hx; omega) (by have:=lenB hall; omega) fun O5 N5 LB5 td5 hb5 hN5 ib5 pb5 fr5=>?_
 have lo5:∀ j,j<N3→j≠4→j≠3→(∀ y∈LB,y.1≠j)→O5.get j=O3.get j:=fun j hj e1 e2 e3=>(fr5 j (by omega) e1 e2 e3).trans (f4 j hj)
 have dBA:∀ x∈LA3,∀ y∈LB,y.1≠x.1:=fun x hx y hy e=>by
  have hyN:=(ib y hy).2
  obtain ⟨z,hz,ez⟩:=(ia3' x hx).2.2.2 (by omega)
  exact ab z hz y hy (by rw [ez,e])
 have a5:LR O5 kS kcS 1 2 1 c LA3:=ha3.same fun j hj=>by
  rcases hj with rfl | rfl | ⟨x,hx,rfl⟩
  · exact lo5 _ (by omega) (by omega) (by omega) fun y hy=>by have:=nBk y hy; omega
  · exact lo5 _ (by omega) (by omega) (by omega) fun y hy=>by have:=nBk y hy; omega
  · have:=ia3' x hx
    exact lo5 _ (by omega) (by omega) (by omega) fun y hy=>dBA x hx y hy
 have ro5:ziX O5 act off cap:=(lo5 0 (by omega) (by omega) (by omega) (fun y hy=>by have:=nBk y hy; omega)).trans ro3
 have r5:Obj O5 5 [.int .i64 (c:Int),ps]:=r3.same (lo5 _ (by omega) (by omega) (by omega) fun y hy=>by have:=nBk y hy; omega)
 have p5:PV O5 6 N5 (ys.map yx) ps:=p3.same (fun hn=>lo5 _ (by omega) (by have:=hp.sid_lt hn; omega) (by have:=hp.sid_lt hn; omega) fun y hy=>pb y hy hn) (Nat.le_refl _) (by omega)
 have v5:SV O5 1 zdE N N5 [(act i).2.2] (.slc N 0 0 1 1):=v3.same (fun _=>lo5 N (by omega) (by omega) (by omega) fun y hy=>by have:=ib y hy; omega) (Nat.le_refl _) (by omega)
 have ib5':∀ x∈LB5,6≤x.1∧x.1<N5∧x.1≠N∧(x.1<N3→∃ y∈LB,y.1=x.1):=fun x hx=>by
  obtain ⟨q1,q2⟩:=ib5 x hx
  rcases q2 with q2 | ⟨y,hy,q2⟩
  · exact ⟨by omega,q1,by omega,fun hh=>by omega⟩
  · have:=ib y hy
    exact ⟨by omega,q1,by omega,fun _=>⟨y,hy,q2⟩⟩
 have dAB:∀ x∈LA3,∀ y∈LB5,x.1≠y.1:=fun x hx y hy e=>by
  have hx1:=(ia3' x hx).2.1
  obtain ⟨z,hz,ez⟩:=(ib5' y hy).2.2.2 (by omega)
  exact dBA x hx z hz (by rw [ez,e])
 refine (Obl.goal mix (K:=GK) (fun _ h=>h) (cast (vd (fun v _=>R0 v) 0 3 [] td5 N5 O5 off len cap ((i:Nat):Int) ((act i).2.1) ((act i).2.2) false (nm (kOf (act i).2.1)) (nm (IntKind.i64.wrap ((act i).2.2.tmod (500:Int)+(500:Int)))) N G GK).symm ⟨bi,zR ro5 (show i<cap by omega) 2 (by omega) N5 G,?_⟩))
 rw [hke]
 refine zin r5 (by omega) p5 (by rw [List.length_map]; exact hxl) (by rw [List.length_map]; have:=lenY hall; omega) fun O6 N6 ps6 td6 r6 p6 fr6 hN6=>?_
 have nx:=hK O6 N6 (zfH c (kOf (act i).2.1) ((act i).2.2,.slc N 0 0 1 1) ys) LA3 LB5 ps6
 rw [← w] at nx
 refine (Obl.goal mix (K:=GK) (fun _ h=>h) (cast (qJ (fun v _=>R0 v) 0 3 [] td6 N6 O6 off len cap ((i:Nat):Int) ((act i).2.1) ((act i).2.2) false (nm (kOf (act i).2.1)) (nm (IntKind.i64.wrap ((act i).2.2.tmod (500:Int)+(500:Int)))) N G GK).symm (nx ?_)))
 have lo6:∀ j,j<N5→j≠5→O6.get j=O5.get j:=fr6
 have old:∀ y∈ys,SV O6 1 zdE 6 N6 [y.2.1] y.2.2∧y.2.2≠.nils 0 0∧(∀ x∈LA3,x.1≠sid y.2.2)∧(∀ x∈LB5,x.1≠sid y.2.2):=fun y hy=>by
  obtain ⟨q1,q2,q3,q4⟩:=va y hy
  have hs:=q1.sid_lt q2
  have e2:O2.get (sid y.2.2)=O.get (sid y.2.2):=(f2 _ (by omega)).trans (f1 _ (by omega))
  have e3:=lo3 (sid y.2.2) (by omega) (by omega) (by omega) q3
  have e5:=lo5 (sid y.2.2) (by omega) (by omega) (by omega) q4
  have e6:=lo6 (sid y.2.2) (by omega) (by omega)
  refine ⟨q1.same (fun _=>e6.trans (e5.trans (e3.trans e2))) (Nat.le_refl _) (by omega),q2,fun x hx e=>?_,fun x hx e=>?_⟩
  · obtain ⟨z,hz,ez⟩:=(ia3' x hx).2.2.2 (by omega)
    exact q3 z hz (by rw [ez,e])
  · obtain ⟨z,hz,ez⟩:=(ib5' x hx).2.2.2 (by omega)
    exact q4 z hz (by rw [ez,e])
 have new:SV O6 1 zdE 6 N6 [(act i).2.2] (.slc N 0 0 1 1):=v5.same (fun _=>lo6 N (by omega) (by omega)) (by omega) (by omega)
 have hmem:∀ y∈zfH c (kOf (act i).2.1) ((act i).2.2,AV.slc N 0 0 1 1) ys,y=(kOf (act i).2.1,((act i).2.2,AV.slc N 0 0 1 1))∨y∈ys:=fun y hy=>ze5 hy
 refine ⟨(lo6 0 (by omega) (by omega)).trans ro5,a5.same fun j hj=>?_,hb5.same fun j hj=>?_,r6,?_,by omega,fun x hx=>⟨(ia3' x hx).1,by have:=ia3' x hx; omega⟩,fun x hx=>⟨(ib5' x hx).1,by have:=ib5' x hx; omega⟩,dAB,fun x hx hn=>?_,fun x hx hn=>?_,?_,?_,fun y hy=>?_,fun y hy=>?_,?_⟩
 · rcases hj with rfl | rfl | ⟨x,hx,rfl⟩
   · exact lo6 _ (by omega) (by omega)
   · exact lo6 _ (by omega) (by omega)
   · have:=ia3' x hx
     exact lo6 _ (by omega) (by omega)
 · rcases hj with rfl | rfl | ⟨x,hx,rfl⟩
   · exact lo6 _ (by omega) (by omega)
   · exact lo6 _ (by omega) (by omega)
   · have:=ib5' x hx
     exact lo6 _ (by omega) (by omega)
 · have:zbX c (kOf (act i).2.1) (act i).2.2 (ys.map yx)=(zfH c (kOf (act i).2.1) ((act i).2.2,AV.slc N 0 0 1 1) ys).map yx:=zjl (w:=((act i).2.2,AV.slc N 0 0 1 1))
   rw [← this]
   exact p6.same (fun _=>rfl) (by omega) (Nat.le_refl _)
 · have:=p6.sid_lt hn
   have:=(ia3' x hx).2.1
   omega
 · have:=p6.sid_lt hn
   have:=(ib5' x hx).2.1
   omega
 · rw [pa3,ra]
   exact jW (c:=c) (k:=kOf (act i).2.1) (w:=((act i).2.2,AV.slc N 0 0 1 1)) yA (fun y hy=>zjD (hy0 _ hy) hkr)
 · rw [pb5,rb]
   exact jW (c:=c) (k:=kOf (act i).2.1) (w:=((act i).2.2,AV.slc N 0 0 1 1)) yB (fun y hy=>zji)
 · rcases hmem y hy with rfl | hy
   · exact hkr
   · exact hy0 _ hy
 · rcases hmem y hy with rfl | hy
   · exact ⟨new,by simp,fun x hx=>(ia3' x hx).2.2.1,fun x hx=>(ib5' x hx).2.2.1⟩
   · exact old y hy
 · exact Nat.le_trans zfc (by omega)
theorem zk9 (h:InvK O N act off cap c i ys LA LB ps)(hi:i<len)(hl:len≤cap)(h1:i<100)(hk:((act i).2.1).tmod 1000<0)
 (hK:∀ O' N' ys' LA' LB' ps',InvK O' N' act off cap c (i+1) ys' LA' LB' ps'→GK (WK off len cap ((i+1:Nat):Int) [] O' N' G)):∀ (is:Bool) (sv:AV) (sn:List UInt8) (x:Int) (O3:T AObj) (N3:Nat) (td3:List AItem) (ys':List Y) (LA3:List (Ent (List UInt8))) (LB3:List (Ent Key)),ziX O3 act off cap→LR O3 kS kcS 1 2 1 c LA3→LR O3 kK kcK 1 4 3 c LB3→Obj O3 5 [.int .i64 (c:Int),ps]→PV O3 6 N3 (ys.map yx) ps→N+1≤N3 →
  (∀ x∈LA3,∃ y∈LA,y.1=x.1)→(∀ x∈LB3,∃ y∈LB,y.1=x.1)→(∀ y∈ys',y∈ys)→ys'.length=ys.length→LA3.map (·.2)=ys'.map yA→LB3.map (·.2)=ys'.map yB→zde (kOf (act i).2.1) (ys.map yx)=ys'.map yx→(∀ y∈ys,O3.get (sid y.2.2)=O.get (sid y.2.2)) →
  (∀ b z,TB (kOf (act i).2.1) b z (ys.map yx)→b=is∧z.2=x)→(is=true→∃ y∈ys,sv=y.2.2∧sn=nm (IntKind.i64.wrap (y.2.1.tmod 500+500))∧x=y.2.1)→(is=false→sv=.nils 0 0∧sn=[]) →
  GK (AM.mk (enF 13 [.ptr 5 0 0,.int .i64 (kOf (act i).2.1)]) [(xR off len cap ((i:Nat):Int) (act i).2.1 true is sv sn (nm (kOf (act i).2.1)))] ⟨O3,N3,G⟩):=by
 have hxl:=h.lenx
 have hall:=h
 obtain ⟨ro,ha,hb,hr,hp,hN,ia,ib,ab,pa,pb,ra,rb,hy0,va,hm⟩:=h
 have w:IntKind.i64.wrap (((i:Nat):Int)+(1:Int))=((i+1:Nat):Int):=by rw [IntKind.wrap_i64]; omega
 have bi:(0:Int)≤((i:Nat):Int)∧((i:Nat):Int)<((len:Nat):Int):=⟨by omega,by omega⟩
 have hke:(IntKind.i64.wrap ((0:Int) - ((act i).2.1).tmod (1000:Int)))=kOf (act i).2.1:=by
  unfold kOf
  have:=Int.tmod_lt_of_pos (act i).2.1 (show (0:Int)<1000 by decide)
  have:=Int.lt_tmod_of_pos (act i).2.1 (show (0:Int)<1000 by decide)
  first | (rw [IntKind.wrap_i64]; omega) | omega
 have hkr:0≤kOf (act i).2.1∧kOf (act i).2.1<1000:=zbS _
 have l0:=y6 ro (show i<cap by omega) N G
 have l1:=zR ro (show i<cap by omega) 1 (by omega) N G
 have nAk:∀ x∈LA,6≤x.1:=fun x hx=>(ia x hx).1
 have nBk:∀ x∈LB,6≤x.1:=fun x hx=>(ib x hx).1
 have hsp:sid ps<N:=by
  by_cases hps:ps=.nils 0 0
  · rw [hps]; show 0<N; omega
  · exact (hp.sid_lt hps).2
 have hsp6:sid ps=0∨6≤sid ps:=by
  by_cases hps:ps=.nils 0 0
  · rw [hps]; exact .inl rfl
  · exact .inr (hp.sid_lt hps).1
 have nx:∀ (O6:T AObj) (N6:Nat) (ys':List Y) (LA6:List (Ent (List UInt8))) (LB6:List (Ent Key)) (ps6:AV),InvK O6 N6 act off cap c (i+1) ys' LA6 LB6 ps6→GK (WK off len cap (IntKind.i64.wrap (((i:Nat):Int)+(1:Int))) [] O6 N6 G):=fun O6 N6 ys' LA6 LB6 ps6 hh=>by
  rw [w]
  exact hK O6 N6 ys' LA6 LB6 ps6 hh
 have hyn:(ys.map (·.1)).Nodup:=by
  have:=hb.2.2.2.2.2.2.2.1
  have e:LB.map (·.2.1)=(ys.map (·.1)).map fun k=>(kw,k):=by
   have:=congrArg (List.map (·.1)) rb
   rw [List.map_map,List.map_map] at this
   rw [List.map_map]
   exact this
  rw [e] at this
  exact x6 this
 have hxn:((ys.map yx).map (·.1)).Nodup:=by
  rw [List.map_map]
  exact hyn
 intro is sv sn x O3 N3 td3 ys' LA3 LB3 ro3 a3 b3 r3 p3 hN3 ia3 ib3 hys hyl eA eB eR hsv hTB hT hF
 refine zhz r3 (by omega) p3 (by rw [List.length_map]; have:=lenY hall; omega) hxn fun O4 N4 ps4 td4 b z r4 p4 fr4 hN4 hb4=>?_
 obtain ⟨rfl,rfl⟩:=hTB b z hb4
 have lo4:∀ j,j<N3→j≠5→O4.get j=O3.get j:=fr4
 have iA:∀ x∈LA3,6≤x.1∧x.1<N:=fun x hx=>by obtain ⟨y,hy,e⟩:=ia3 x hx; rw [← e]; exact ia y hy
 have iB:∀ x∈LB3,6≤x.1∧x.1<N:=fun x hx=>by obtain ⟨y,hy,e⟩:=ib3 x hx; rw [← e]; exact ib y hy
 have vs4:∀ y∈ys,SV O4 1 zdE 6 N4 [y.2.1] y.2.2∧y.2.2≠.nils 0 0∧(∀ x∈LA3,x.1≠sid y.2.2)∧(∀ x∈LB3,x.1≠sid y.2.2):=fun y hy=>by
  obtain ⟨q1,q2,q3,q4⟩:=va y hy
  have hs:=q1.sid_lt q2
  refine ⟨q1.same (fun _=>(lo4 _ (by omega) (by omega)).trans (hsv y hy)) (Nat.le_refl _) (by omega),q2,fun x hx e=>?_,fun x hx e=>?_⟩
  · obtain ⟨z,hz,ez⟩:=ia3 x hx
    exact q3 z hz (by rw [ez,e])
  · obtain ⟨z,hz,ez⟩:=ib3 x hx
    exact q4 z hz (by rw [ez,e])
 have inv:∀ (O5:T AObj) (N5:Nat),N4≤N5→(∀ j,j<N4→O5.get j=O4.get j)→InvK O5 N5 act off cap c (i+1) ys' LA3 LB3 ps4:=fun O5 N5 h5 f5=>by
  have base:InvK O4 N4 act off cap c (i+1) ys' LA3 LB3 ps4:=by
   refine ⟨(lo4 0 (by omega) (by omega)).trans ro3,a3.same fun j hj=>?_,b3.same fun j hj=>?_,r4,?_,by omega,fun x hx=>⟨(iA x hx).1,by have:=iA x hx; omega⟩,fun x hx=>⟨(iB x hx).1,by have:=iB x hx; omega⟩,fun x hx y hy e=>?_,fun x hx hn=>?_,fun x hx hn=>?_,eA,eB,fun y hy=>hy0 _ (hys y hy),fun y hy=>vs4 y (hys y hy),by omega⟩
   · rcases hj with rfl | rfl | ⟨x,hx,rfl⟩
     · exact lo4 _ (by omega) (by omega)
     · exact lo4 _ (by omega) (by omega)
     · have:=iA x hx
       exact lo4 _ (by omega) (by omega)
   · rcases hj with rfl | rfl | ⟨x,hx,rfl⟩
     · exact lo4 _ (by omega) (by omega)
     · exact lo4 _ (by omega) (by omega)
     · have:=iB x hx
       exact lo4 _ (by omega) (by omega)
   · rw [← eR]
     exact p4.same (fun _=>rfl) (by omega) (Nat.le_refl _)
   · obtain ⟨z,hz,ez⟩:=ia3 x hx
     obtain ⟨z',hz',ez'⟩:=ib3 y hy
     exact ab z hz z' hz' (by rw [ez,ez',e])
   · have:=p4.sid_lt hn
     have:=(iA x hx).2
     omega
   · have:=p4.sid_lt hn
     have:=(iB x hx).2
     omega
  exact base.same h5 f5
 cases b with
 | false =>
  obtain ⟨rfl,rfl⟩:=hF rfl
  exact (Obl.goal mix (K:=GK) (fun _ h=>h) (cast (qx (fun v _=>R0 v) 0 3 [] td4 N4 O4 off len cap ((i:Nat):Int) ((act i).2.1) true false (.nils 0 0) [] z.2 (nm (kOf (act i).2.1)) 0 G GK).symm ⟨rfl,rfl,rfl,rfl,(SV.len (α:=Int) (O:=O4) (sz:=1) (enc:=zdE) (xs:=[]) (lo:=0) (hi:=0) iS SV.nil _ _),rfl,rfl,nx O4 N4 ys' LA3 LB3 ps4 (inv O4 N4 (Nat.le_refl _) fun _ _=>rfl)⟩))
 | true =>
  obtain ⟨y,hy,rfl,rfl,ez⟩:=hT rfl
  obtain ⟨q1,q2,_,_⟩:=vs4 y hy
  obtain ⟨ri,zz,o,_,_,hat,rd,_⟩:=q1.at iS iE (j:=0) (a:=y.2.1) rfl
  refine (Obl.goal mix (K:=GK) (fun _ h=>h) (cast (qu (fun v _=>R0 v) 0 3 [] td4 N4 O4 off len cap ((i:Nat):Int) ((act i).2.1) true true y.2.2 (nm (IntKind.i64.wrap (y.2.1.tmod 500+500))) z.2 (nm (kOf (act i).2.1)) ri zz o 1 y.2.1 G GK).symm ⟨rfl,rfl,rfl,q1.len iS _ _,rfl,hat,rd.load (n:=1) rfl _ _,by rw [ez]; exact bne_self_eq_false _,?_⟩))
  refine qV fun O5 td5 f5=>?_
  exact (Obl.goal mix (K:=GK) (fun _ h=>h) (cast (yi (fun v _=>R0 v) 0 3 [] td5 (N4+1) O5 off len cap ((i:Nat):Int) ((act i).2.1) true true y.2.2 (nm (IntKind.i64.wrap (y.2.1.tmod 500+500))) z.2 (nm (kOf (act i).2.1)) (nm (IntKind.i64.wrap (z.2.tmod 500+500))) ri zz o 1 y.2.1 G GK).symm ⟨by rw [ez]; simp,rfl,nx O5 (N4+1) ys' LA3 LB3 ps4 (inv O5 (N4+1) (Nat.le_succ _) f5)⟩))
theorem get_y (h:InvK O N act off cap c i ys LA LB ps)(hi:i<len)(hl:len≤cap)(h1:i<100)(hk:((act i).2.1).tmod 1000<0)
 (hK:∀ O' N' ys' LA' LB' ps',InvK O' N' act off cap c (i+1) ys' LA' LB' ps'→GK (WK off len cap ((i+1:Nat):Int) [] O' N' G)) (hg:(act i).1=true):GK (WK off len cap ((i:Nat):Int) [] O N G):=by
 have rest3:=zk9 h hi hl h1 hk hK
 have hxl:=h.lenx
 have hall:=h
 obtain ⟨ro,ha,hb,hr,hp,hN,ia,ib,ab,pa,pb,ra,rb,hy0,va,hm⟩:=h
 have w:IntKind.i64.wrap (((i:Nat):Int)+(1:Int))=((i+1:Nat):Int):=by rw [IntKind.wrap_i64]; omega
 have bi:(0:Int)≤((i:Nat):Int)∧((i:Nat):Int)<((len:Nat):Int):=⟨by omega,by omega⟩
 have hke:(IntKind.i64.wrap ((0:Int) - ((act i).2.1).tmod (1000:Int)))=kOf (act i).2.1:=by
  unfold kOf
  have:=Int.tmod_lt_of_pos (act i).2.1 (show (0:Int)<1000 by decide)
  have:=Int.lt_tmod_of_pos (act i).2.1 (show (0:Int)<1000 by decide)
  first | (rw [IntKind.wrap_i64]; omega) | omega
 have hkr:0≤kOf (act i).2.1∧kOf (act i).2.1<1000:=zbS _
 have l0:=y6 ro (show i<cap by omega) N G
 have l1:=zR ro (show i<cap by omega) 1 (by omega) N G
 have nAk:∀ x∈LA,6≤x.1:=fun x hx=>(ia x hx).1
 have nBk:∀ x∈LB,6≤x.1:=fun x hx=>(ib x hx).1
 have hsp:sid ps<N:=by
  by_cases hps:ps=.nils 0 0
  · rw [hps]; show 0<N; omega
  · exact (hp.sid_lt hps).2
 have hsp6:sid ps=0∨6≤sid ps:=by
  by_cases hps:ps=.nils 0 0
  · rw [hps]; exact .inl rfl
  · exact .inr (hp.sid_lt hps).1
 refine (Obl.goal mix (K:=GK) (fun _ h=>h) (cast (zke (fun v _=>R0 v) 0 3 [] N O off len cap ((i:Nat):Int) ((act i).2.1) true G GK).symm ⟨decide_eq_true (by omega),decide_eq_true (by omega),bi,l1,decide_eq_true (by omega),bi,by rw [l0,hg],rfl,?_⟩))
 rw [hke]
 refine qV fun O2 td2 f2=>?_
 have hI2:=hall.same (Nat.le_succ _) f2
 refine (Obl.goal mix (K:=GK) (fun _ h=>h) (cast (zgd (fun v _=>R0 v) 0 3 [] td2 (N+1) O2 off len cap ((i:Nat):Int) ((act i).2.1) true (nm (kOf (act i).2.1)) G GK).symm ?_))
 have nx:∀ (O6:T AObj) (N6:Nat) (ys':List Y) (LA6:List (Ent (List UInt8))) (LB6:List (Ent Key)) (ps6:AV),InvK O6 N6 act off cap c (i+1) ys' LA6 LB6 ps6→GK (WK off len cap (IntKind.i64.wrap (((i:Nat):Int)+(1:Int))) [] O6 N6 G):=fun O6 N6 ys' LA6 LB6 ps6 hh=>by
  rw [w]
  exact hK O6 N6 ys' LA6 LB6 ps6 hh
 have hyn:(ys.map (·.1)).Nodup:=by
  have:=hb.2.2.2.2.2.2.2.1
  have e:LB.map (·.2.1)=(ys.map (·.1)).map fun k=>(kw,k):=by
   have:=congrArg (List.map (·.1)) rb
   rw [List.map_map,List.map_map] at this
   rw [List.map_map]
   exact this
  rw [e] at this
  exact x6 this
 have hxn:((ys.map yx).map (·.1)).Nodup:=by
  rw [List.map_map]
  exact hyn
 refine zhr hI2.a (by omega) (by omega) (fun x hx=>(hI2.ia x hx).2) (fun x hx=>?_) (fun hk O3 td3 a3 f3=>?_) fun p s u ws O3 td3 hL hpk hps a3 f3=>?_
 · have:(x.2)∈LA.map (·.2):=List.mem_map_of_mem hx
   rw [ra] at this
   obtain ⟨y,hy,e⟩:=List.mem_map.1 this
   exact ⟨y.2.2,by rw [← e]; rfl⟩
 ·
  have hky:∀ y∈ys,y.1≠kOf (act i).2.1:=fun y hy e=>by
   have:yA y∈LA.map (·.2):=by rw [ra]; exact List.mem_map_of_mem hy
   obtain ⟨x,hx,ex⟩:=List.mem_map.1 this
   exact hk x hx (by rw [ex,← e]; rfl)
  refine (Obl.goal mix (K:=GK) (fun _ h=>h) (cast (vQ (fun v _=>R0 v) 0 3 [] td3 (N+1) O3 off len cap ((i:Nat):Int) ((act i).2.1) true false (.nils 0 0) (nm (kOf (act i).2.1)) G GK).symm ?_))
  rw [hke]
  have b3:=hI2.b.low (N:=N+1) (by omega) (by omega) (fun x hx=>by have:=ib x hx; omega) f3
  refine zb5 b3 (by omega) (by omega) (fun x hx=>by have:=ib x hx; omega) (fun x hx=>?_) (fun hk4 O4 td4 b4 f4=>?_) fun p4 s4 u4 w4 O4 td4 hL4 hpk4 _ _ _=>?_
  · have:(x.2)∈LB.map (·.2):=List.mem_map_of_mem hx
    rw [rb] at this
    obtain ⟨y,hy,e⟩:=List.mem_map.1 this
    exact ⟨_,by rw [← e]; rfl⟩
  · refine (Obl.goal mix (K:=GK) (fun _ h=>h) (cast (qF (fun v _=>R0 v) 0 3 [] td4 (N+1+2) O4 off len cap ((i:Nat):Int) ((act i).2.1) true false (.nils 0 0) [] (nm (kOf (act i).2.1)) G GK).symm ?_))
    rw [hke]
    have low:∀ j,j<N→O4.get j=O.get j:=fun j hj=>(f4 j (by omega)).trans ((f3 j (by omega)).trans (f2 j hj))
    refine rest3 false _ _ 0 O4 (N+1+2) td4 ys LA LB ((low 0 (by omega)).trans ro) (ha.low (N:=N) (by omega) (by omega) (fun x hx=>(ia x hx).2) low) b4 (hr.same (low 5 (by omega))) (hp.keep (fun j _ hj=>low j hj) (Nat.le_refl _) (by omega)) (by omega) (fun x hx=>⟨x,hx,rfl⟩) (fun x hx=>⟨x,hx,rfl⟩) (fun y hy=>hy) rfl ra rb ?_ (fun y hy=>low _ ((va y hy).1.sid_lt (va y hy).2.1).2) (fun b z hz=>?_) (fun e=>by cases e) (fun _=>⟨rfl,rfl⟩)
    · unfold zde
      have hq:∀ q∈ys.map yx,q.1≠kOf (act i).2.1:=fun q hq=>by obtain ⟨y,hy,rfl⟩:=List.mem_map.1 hq; exact hky y hy
      rw [zdz hq,zeH hq,List.nil_append]
    · rcases hz with ⟨_,e1,e2⟩ | ⟨rfl,rfl,_⟩
      · obtain ⟨y,hy,rfl⟩:=List.mem_map.1 e2
        exact absurd e1 (hky y hy)
      · exact ⟨rfl,rfl⟩
  · exfalso
    have:p4.2∈LB.map (·.2):=by rw [hL4]; simp
    rw [rb] at this
    obtain ⟨y,hy,e⟩:=List.mem_map.1 this
    have e1:p4.2.1=(kw,y.1):=by rw [← e]; rfl
    rw [e1] at hpk4
    exact hky y hy (Prod.mk.inj hpk4).2
 ·
  subst hL
  have hmA:yA∘id=yA:=rfl
  obtain ⟨yu,y,yw,hyeq,eu,ey,ew⟩:=zaG (show ys.map yA=u.map (·.2)++p.2::ws.map (·.2) by rw [← ra,List.map_append,List.map_cons])
  have hyk:y.1=kOf (act i).2.1:=by
   have e1:nm y.1=p.2.1:=by rw [← ey]; rfl
   rw [hpk] at e1
   exact zgz (hy0 _ (by rw [hyeq]; simp)) hkr e1
  have hys:s=y.2.2:=by
   have e1:p.2.2=[y.2.2]:=by rw [← ey]; rfl
   rw [hps] at e1
   exact (List.cons.inj e1).1
  subst hys
  have hym:y∈ys:=by rw [hyeq]; simp
  refine (Obl.goal mix (K:=GK) (fun _ h=>h) (cast (vQ (fun v _=>R0 v) 0 3 [] td3 (N+1) O3 off len cap ((i:Nat):Int) ((act i).2.1) true true y.2.2 (nm (kOf (act i).2.1)) G GK).symm ?_))
  rw [hke]
  have loA:∀ j,j<N→j≠2→(∀ z∈u++p::ws,z.1≠j)→O3.get j=O.get j:=fun j hj e1 e2=>(f3 j e1 e2).trans (f2 j hj)
  have b3:LR O3 kK kcK 1 4 3 c LB:=hI2.b.same fun j hj=>by
   rcases hj with rfl | rfl | ⟨x,hx,rfl⟩
   · exact f3 _ (by omega) fun z hz=>by have:=nAk z hz; omega
   · exact f3 _ (by omega) fun z hz=>by have:=nAk z hz; omega
   · exact f3 _ (by have:=ib x hx; omega) fun z hz=>ab z hz x hx
  refine zb5 b3 (by omega) (by omega) (fun x hx=>by have:=ib x hx; omega) (fun x hx=>?_) (fun hk4 O4 td4 b4 f4=>?_) fun p4 s4 u4 w4 O4 td4 hL4 hpk4 hps4 b4 f4=>?_
  · have:(x.2)∈LB.map (·.2):=List.mem_map_of_mem hx
    rw [rb] at this
    obtain ⟨y,hy,e⟩:=List.mem_map.1 this
    exact ⟨_,by rw [← e]; rfl⟩
  · exfalso
    have:yB y∈LB.map (·.2):=by rw [rb]; exact List.mem_map_of_mem hym
    obtain ⟨x,hx,ex⟩:=List.mem_map.1 this
    exact hk4 x hx (by rw [ex]; show (kw,y.1)=_; rw [hyk]; rfl)
  · subst hL4
    obtain ⟨zu,z,zw,hzeq,fu,fy,fw⟩:=zaG (show ys.map yB=u4.map (·.2)++p4.2::w4.map (·.2) by rw [← rb,List.map_append,List.map_cons])
    have hzk:z.1=kOf (act i).2.1:=by
     have e1:(kw,z.1)=p4.2.1:=by rw [← fy]; rfl
     rw [hpk4] at e1
     exact (Prod.mk.inj e1).2
    have hzm:z∈ys:=by rw [hzeq]; simp
    have hzy:z=y:=vR hyn y hym z hzm (by rw [hzk,hyk])
    subst hzy
    obtain ⟨rfl,rfl⟩:=jd (f:=fun y:Y=>y.1) (u':=yu) (w':=yw) (a:=z) (by rw [← hyeq]; exact hyn) (hzeq.symm.trans hyeq)
    have hs4:s4=nm (IntKind.i64.wrap (z.2.1.tmod 500+500)):=by
     have e1:p4.2.2=[AV.str (nm (IntKind.i64.wrap (z.2.1.tmod 500+500)))]:=by rw [← fy]; rfl
     rw [hps4] at e1
     exact AV.str.inj (List.cons.inj e1).1
    subst hs4
    refine (Obl.goal mix (K:=GK) (fun _ h=>h) (cast (qF (fun v _=>R0 v) 0 3 [] td4 (N+1+2) O4 off len cap ((i:Nat):Int) ((act i).2.1) true true z.2.2 (nm (IntKind.i64.wrap (z.2.1.tmod 500+500))) (nm (kOf (act i).2.1)) G GK).symm ?_))
    rw [hke]
    have lo4:∀ j,j<N→j≠2→j≠4→(∀ z∈u++p::ws,z.1≠j)→(∀ z∈u4++p4::w4,z.1≠j)→O4.get j=O.get j:=fun j hj e1 e2 e3 e4=>(f4 j (by omega) e2 e4).trans (loA j hj e1 e3)
    have nA:∀ j,j<6→∀ z∈u++p::ws,z.1≠j:=fun j hj z hz=>by have:=nAk z hz; omega
    have nB:∀ j,j<6→∀ z∈u4++p4::w4,z.1≠j:=fun j hj z hz=>by have:=nBk z hz; omega
    have inA:∀ x∈p::(u++ws),x∈u++p::ws:=fun x hx=>by
     rcases List.mem_cons.1 hx with rfl | hx
     · simp
     · rcases List.mem_append.1 hx with b | b
       · exact List.mem_append_left _ b
       · exact List.mem_append_right _ (List.mem_cons_of_mem _ b)
    have inB:∀ x∈p4::(u4++w4),x∈u4++p4::w4:=fun x hx=>by
     rcases List.mem_cons.1 hx with rfl | hx
     · simp
     · rcases List.mem_append.1 hx with b | b
       · exact List.mem_append_left _ b
       · exact List.mem_append_right _ (List.mem_cons_of_mem _ b)
    refine rest3 true _ _ z.2.1 O4 (N+1+2) td4 (z::(zu++zw)) (p::(u++ws)) (p4::(u4++w4)) ((lo4 0 (by omega) (by omega) (by omega) (nA 0 (by omega)) (nB 0 (by omega))).trans ro) (a3.same fun j hj=>?_) b4 (hr.same (lo4 5 (by omega) (by omega) (by omega) (nA 5 (by omega)) (nB 5 (by omega)))) (hp.same (fun hn=>lo4 _ hsp (by have:=hp.sid_lt hn; omega) (by have:=hp.sid_lt hn; omega) (fun z hz=>pa z hz hn) (fun z hz=>pb z hz hn)) (Nat.le_refl _) (by omega)) (by omega) (fun x hx=>⟨x,inA x hx,rfl⟩) (fun x hx=>⟨x,inB x hx,rfl⟩) (fun x hx=>?_) (by rw [hzeq]; simp only [List.length_cons,List.length_append]; omega) ?_ ?_ ?_ (fun x hx=>?_) (fun b q hq=>?_) (fun _=>⟨z,hzm,rfl,rfl,rfl⟩) (fun e=>by cases e)
    · rcases hj with rfl | rfl | ⟨x,hx,rfl⟩
      · exact f4 _ (by omega) (by omega) (nB 2 (by omega))
      · exact f4 _ (by omega) (by omega) (nB 1 (by omega))
      · have hxA:=inA x hx
        have:=ia x hxA
        exact f4 _ (by omega) (by omega) fun z hz e=>ab x hxA z hz e.symm
    · rw [hzeq]
      rcases List.mem_cons.1 hx with rfl | hx
      · simp
      · rcases List.mem_append.1 hx with b | b
        · exact List.mem_append_left _ b
        · exact List.mem_append_right _ (List.mem_cons_of_mem _ b)
    · rw [List.map_cons,List.map_append,List.map_cons,List.map_append,ey,eu,ew]
    · rw [List.map_cons,List.map_append,List.map_cons,List.map_append,fy,fu,fw]
    · have e1:yx z∈ys.map yx:=List.mem_map_of_mem hzm
      rw [zck e1 hzk hxn,List.map_cons,List.map_append]
      congr 1
      rw [hzeq,List.map_append,List.map_cons]
      have hnn:=hxn
      rw [hzeq,List.map_append,List.map_cons,List.map_append,List.map_cons] at hnn
      obtain ⟨m1,m2⟩:=xO hnn
      rw [← List.map_append] at m2
      have hu:∀ q∈zu.map yx++zw.map yx,q.1≠kOf (act i).2.1:=fun q hq e=>m2 (by rw [show (yx z).1=kOf (act i).2.1 from hzk,← e]; exact List.mem_map_of_mem hq)
      rw [List.filter_append,List.filter_cons,if_neg (by simp [yx,hzk]),zeH fun q hq=>hu q (List.mem_append_left _ hq),zeH fun q hq=>hu q (List.mem_append_right _ hq)]
    · obtain ⟨q1,q2,q3,q4⟩:=va x hx
      have hs:=q1.sid_lt q2
      exact lo4 _ (by omega) (by omega) (by omega) q3 q4
    · have e1:yx z∈ys.map yx:=List.mem_map_of_mem hzm
      rcases hq with ⟨rfl,a1,a2⟩ | ⟨rfl,rfl,a1⟩
      · refine ⟨rfl,?_⟩
        have:=vR hxn (yx z) e1 q a2 (by rw [a1]; exact hzk.symm)
        rw [this]
        rfl
      · exact absurd hzk (a1 _ e1)
theorem zjW (h:InvK O N act off cap c i ys LA LB ps)(hi:i<len)(hl:len≤cap)(h1:i<100)(hk:((act i).2.1).tmod 1000<0)
 (hK:∀ O' N' ys' LA' LB' ps',InvK O' N' act off cap c (i+1) ys' LA' LB' ps'→GK (WK off len cap ((i+1:Nat):Int) [] O' N' G)):GK (WK off len cap ((i:Nat):Int) [] O N G):=by
 cases hg:(act i).1 with
 | false=>exact put_y h hi hl h1 hk hK hg
 | true=>exact get_y h hi hl h1 hk hK hg
theorem put_n (h:InvK O N act off cap c i ys LA LB ps)(hi:i<len)(hl:len≤cap)(h1:i<100)(hk:0≤((act i).2.1).tmod 1000)
 (hK:∀ O' N' ys' LA' LB' ps',InvK O' N' act off cap c (i+1) ys' LA' LB' ps'→GK (WK off len cap ((i+1:Nat):Int) [] O' N' G)) (hg:(act i).1=false):GK (WK off len cap ((i:Nat):Int) [] O N G):=by
 have hxl:=h.lenx
 have hall:=h
 obtain ⟨ro,ha,hb,hr,hp,hN,ia,ib,ab,pa,pb,ra,rb,hy0,va,hm⟩:=h
 have w:IntKind.i64.wrap (((i:Nat):Int)+(1:Int))=((i+1:Nat):Int):=by rw [IntKind.wrap_i64]; omega
 have bi:(0:Int)≤((i:Nat):Int)∧((i:Nat):Int)<((len:Nat):Int):=⟨by omega,by omega⟩
 have hke:(((act i).2.1).tmod (1000:Int))=kOf (act i).2.1:=by
  unfold kOf
  have:=Int.tmod_lt_of_pos (act i).2.1 (show (0:Int)<1000 by decide)
  have:=Int.lt_tmod_of_pos (act i).2.1 (show (0:Int)<1000 by decide)
  first | (rw [IntKind.wrap_i64]; omega) | omega
 have hkr:0≤kOf (act i).2.1∧kOf (act i).2.1<1000:=zbS _
 have l0:=y6 ro (show i<cap by omega) N G
 have l1:=zR ro (show i<cap by omega) 1 (by omega) N G
 have nAk:∀ x∈LA,6≤x.1:=fun x hx=>(ia x hx).1
 have nBk:∀ x∈LB,6≤x.1:=fun x hx=>(ib x hx).1
 have hsp:sid ps<N:=by
  by_cases hps:ps=.nils 0 0
  · rw [hps]; show 0<N; omega
  · exact (hp.sid_lt hps).2
 have hsp6:sid ps=0∨6≤sid ps:=by
  by_cases hps:ps=.nils 0 0
  · rw [hps]; exact .inl rfl
  · exact .inr (hp.sid_lt hps).1
 obtain ⟨O1,e1,v1,_,f1⟩:=zfo iE (el:=3) (act i).2.2 O N G (st:=25) (iLit (act i).2.2)
 have hI1:=hall.same (Nat.le_succ N) (fun j hj=>f1 j (by omega))
 refine (Obl.goal mix (K:=GK) (fun _ h=>h) (cast (zj4 (fun v _=>R0 v) 0 3 [] N O off len cap ((i:Nat):Int) ((act i).2.1) ((act i).2.2) false O1 G GK).symm ⟨decide_eq_true (by omega),decide_eq_true (by omega),bi,l1,decide_eq_false (by omega),bi,by rw [l0,hg],rfl,bi,zR ro (show i<cap by omega) 2 (by omega) N G,e1,zR hI1.ro (show i<cap by omega) 2 (by omega) (N+1) G,?_⟩))
 rw [hke]
 refine qV fun O2 td2 f2=>?_
 have hI2:=hI1.same (Nat.le_succ _) f2
 have v2:SV O2 1 zdE N (N+2) [(act i).2.2] (.slc N 0 0 1 1):=v1.keep (fun j _ hj=>f2 j (by omega)) (Nat.le_refl _) (by omega)
 refine (Obl.goal mix (K:=GK) (fun _ h=>h) (cast (zgg (fun v _=>R0 v) 0 3 [] td2 (N+1+1) O2 off len cap ((i:Nat):Int) ((act i).2.1) ((act i).2.2) false (nm (kOf (act i).2.1)) N G GK).symm ⟨trivial,zR hI2.ro (show i<cap by omega) 2 (by omega) (N+1+1) G,?_⟩))
 have ro2:=hI2.ro
 refine zia hI2.a (by omega) (by omega) (fun x hx=>(hI2.ia x hx).2) (by have:=ha.2.2.2.2.2.2.2.2.2; have:=zjp hall; omega) rfl fun O3 N3 LA3 td3 ha3 hN3 ia3 pa3 fr3=>?_
 have lo3:∀ j,j<N+2→j≠2→j≠1→(∀ y∈LA,y.1≠j)→O3.get j=O2.get j:=fr3
 have ro3:ziX O3 act off cap:=(lo3 0 (by omega) (by omega) (by omega) (fun y hy=>by have:=nAk y hy; omega)).trans ro2
 have b3:LR O3 kK kcK 1 4 3 c LB:=hI2.b.same fun j hj=>by
  rcases hj with rfl | rfl | ⟨x,hx,rfl⟩
  · exact lo3 _ (by omega) (by omega) (by omega) fun y hy=>by have:=nAk y hy; omega
  · exact lo3 _ (by omega) (by omega) (by omega) fun y hy=>by have:=nAk y hy; omega
  · have:=ib x hx
    exact lo3 _ (by omega) (by omega) (by omega) fun y hy=>ab y hy x hx
 have r3:Obj O3 5 [.int .i64 (c:Int),ps]:=hI2.r.same (lo3 _ (by omega) (by omega) (by omega) fun y hy=>by have:=nAk y hy; omega)
 have p3:PV O3 6 N3 (ys.map yx) ps:=hI2.p.same (fun hn=>lo3 _ (by omega) (by have:=hp.sid_lt hn; omega) (by have:=hp.sid_lt hn; omega) fun y hy=>pa y hy hn) (Nat.le_refl _) hN3
 have v3:SV O3 1 zdE N N3 [(act i).2.2] (.slc N 0 0 1 1):=v2.same (fun _=>lo3 N (by omega) (by omega) (by omega) fun y hy=>by have:=ia y hy; omega) (Nat.le_refl _) hN3
 have ia3':∀ x∈LA3,6≤x.1∧x.1<N3∧x.1≠N∧(x.1<N→∃ y∈LA,y.1=x.1):=fun x hx=>by
  obtain ⟨q1,q2⟩:=ia3 x hx
  rcases q2 with q2 | ⟨y,hy,q2⟩
  · exact ⟨by omega,q1,by omega,fun hh=>by omega⟩
  · have:=ia y hy
    exact ⟨by omega,q1,by omega,fun _=>⟨y,hy,q2⟩⟩
 refine (Obl.goal mix (K:=GK) (fun _ h=>h) (cast (zcQ (fun v _=>R0 v) 0 3 [] td3 N3 O3 off len cap ((i:Nat):Int) ((act i).2.1) ((act i).2.2) false (nm (kOf (act i).2.1)) N G GK).symm ⟨bi,zR ro3 (show i<cap by omega) 2 (by omega) N3 G,?_⟩))
 refine qV fun O4 td4 f4=>?_
 refine (Obl.goal mix (K:=GK) (fun _ h=>h) (cast (jD (fun v _=>R0 v) 0 3 [] td4 (N3+1) O4 off len cap ((i:Nat):Int) ((act i).2.1) ((act i).2.2) false (nm (kOf (act i).2.1)) (nm (IntKind.i64.wrap ((act i).2.2.tmod (500:Int)+(500:Int)))) N G GK).symm ?_))
 rw [hke]
 have b4:=b3.low (N:=N3) (by omega) (by omega) (fun x hx=>by have:=ib x hx; omega) f4
 refine zgB b4 (by omega) (by omega) (fun x hx=>by have:=ib x hx; omega) (by have:=lenB hall; omega) fun O5 N5 LB5 td5 hb5 hN5 ib5 pb5 fr5=>?_
 have lo5:∀ j,j<N3→j≠4→j≠3→(∀ y∈LB,y.1≠j)→O5.get j=O3.get j:=fun j hj e1 e2 e3=>(fr5 j (by omega) e1 e2 e3).trans (f4 j hj)
 have dBA:∀ x∈LA3,∀ y∈LB,y.1≠x.1:=fun x hx y hy e=>by
  have hyN:=(ib y hy).2
  obtain ⟨z,hz,ez⟩:=(ia3' x hx).2.2.2 (by omega)
  exact ab z hz y hy (by rw [ez,e])
 have a5:LR O5 kS kcS 1 2 1 c LA3:=ha3.same fun j hj=>by
  rcases hj with rfl | rfl | ⟨x,hx,rfl⟩
  · exact lo5 _ (by omega) (by omega) (by omega) fun y hy=>by have:=nBk y hy; omega
  · exact lo5 _ (by omega) (by omega) (by omega) fun y hy=>by have:=nBk y hy; omega
  · have:=ia3' x hx
    exact lo5 _ (by omega) (by omega) (by omega) fun y hy=>dBA x hx y hy
 have ro5:ziX O5 act off cap:=(lo5 0 (by omega) (by omega) (by omega) (fun y hy=>by have:=nBk y hy; omega)).trans ro3
 have r5:Obj O5 5 [.int .i64 (c:Int),ps]:=r3.same (lo5 _ (by omega) (by omega) (by omega) fun y hy=>by have:=nBk y hy; omega)
 have p5:PV O5 6 N5 (ys.map yx) ps:=p3.same (fun hn=>lo5 _ (by omega) (by have:=hp.sid_lt hn; omega) (by have:=hp.sid_lt hn; omega) fun y hy=>pb y hy hn) (Nat.le_refl _) (by omega)
 have v5:SV O5 1 zdE N N5 [(act i).2.2] (.slc N 0 0 1 1):=v3.same (fun _=>lo5 N (by omega) (by omega) (by omega) fun y hy=>by have:=ib y hy; omega) (Nat.le_refl _) (by omega)
 have ib5':∀ x∈LB5,6≤x.1∧x.1<N5∧x.1≠N∧(x.1<N3→∃ y∈LB,y.1=x.1):=fun x hx=>by
  obtain ⟨q1,q2⟩:=ib5 x hx
  rcases q2 with q2 | ⟨y,hy,q2⟩
  · exact ⟨by omega,q1,by omega,fun hh=>by omega⟩
  · have:=ib y hy
    exact ⟨by omega,q1,by omega,fun _=>⟨y,hy,q2⟩⟩
 have dAB:∀ x∈LA3,∀ y∈LB5,x.1≠y.1:=fun x hx y hy e=>by
  have hx1:=(ia3' x hx).2.1
  obtain ⟨z,hz,ez⟩:=(ib5' y hy).2.2.2 (by omega)
  exact dBA x hx z hz (by rw [ez,e])
 refine (Obl.goal mix (K:=GK) (fun _ h=>h) (cast (vq (fun v _=>R0 v) 0 3 [] td5 N5 O5 off len cap ((i:Nat):Int) ((act i).2.1) ((act i).2.2) false (nm (kOf (act i).2.1)) (nm (IntKind.i64.wrap ((act i).2.2.tmod (500:Int)+(500:Int)))) N G GK).symm ⟨bi,zR ro5 (show i<cap by omega) 2 (by omega) N5 G,?_⟩))
 rw [hke]
 refine zin r5 (by omega) p5 (by rw [List.length_map]; exact hxl) (by rw [List.length_map]; have:=lenY hall; omega) fun O6 N6 ps6 td6 r6 p6 fr6 hN6=>?_
 have nx:=hK O6 N6 (zfH c (kOf (act i).2.1) ((act i).2.2,.slc N 0 0 1 1) ys) LA3 LB5 ps6
 rw [← w] at nx
 refine (Obl.goal mix (K:=GK) (fun _ h=>h) (cast (qI (fun v _=>R0 v) 0 3 [] td6 N6 O6 off len cap ((i:Nat):Int) ((act i).2.1) ((act i).2.2) false (nm (kOf (act i).2.1)) (nm (IntKind.i64.wrap ((act i).2.2.tmod (500:Int)+(500:Int)))) N G GK).symm (nx ?_)))
 have lo6:∀ j,j<N5→j≠5→O6.get j=O5.get j:=fr6
 have old:∀ y∈ys,SV O6 1 zdE 6 N6 [y.2.1] y.2.2∧y.2.2≠.nils 0 0∧(∀ x∈LA3,x.1≠sid y.2.2)∧(∀ x∈LB5,x.1≠sid y.2.2):=fun y hy=>by
  obtain ⟨q1,q2,q3,q4⟩:=va y hy
  have hs:=q1.sid_lt q2
  have e2:O2.get (sid y.2.2)=O.get (sid y.2.2):=(f2 _ (by omega)).trans (f1 _ (by omega))
  have e3:=lo3 (sid y.2.2) (by omega) (by omega) (by omega) q3
  have e5:=lo5 (sid y.2.2) (by omega) (by omega) (by omega) q4
  have e6:=lo6 (sid y.2.2) (by omega) (by omega)
  refine ⟨q1.same (fun _=>e6.trans (e5.trans (e3.trans e2))) (Nat.le_refl _) (by omega),q2,fun x hx e=>?_,fun x hx e=>?_⟩
  · obtain ⟨z,hz,ez⟩:=(ia3' x hx).2.2.2 (by omega)
    exact q3 z hz (by rw [ez,e])
  · obtain ⟨z,hz,ez⟩:=(ib5' x hx).2.2.2 (by omega)
    exact q4 z hz (by rw [ez,e])
 have new:SV O6 1 zdE 6 N6 [(act i).2.2] (.slc N 0 0 1 1):=v5.same (fun _=>lo6 N (by omega) (by omega)) (by omega) (by omega)
 have hmem:∀ y∈zfH c (kOf (act i).2.1) ((act i).2.2,AV.slc N 0 0 1 1) ys,y=(kOf (act i).2.1,((act i).2.2,AV.slc N 0 0 1 1))∨y∈ys:=fun y hy=>ze5 hy
 refine ⟨(lo6 0 (by omega) (by omega)).trans ro5,a5.same fun j hj=>?_,hb5.same fun j hj=>?_,r6,?_,by omega,fun x hx=>⟨(ia3' x hx).1,by have:=ia3' x hx; omega⟩,fun x hx=>⟨(ib5' x hx).1,by have:=ib5' x hx; omega⟩,dAB,fun x hx hn=>?_,fun x hx hn=>?_,?_,?_,fun y hy=>?_,fun y hy=>?_,?_⟩
 · rcases hj with rfl | rfl | ⟨x,hx,rfl⟩
   · exact lo6 _ (by omega) (by omega)
   · exact lo6 _ (by omega) (by omega)
   · have:=ia3' x hx
     exact lo6 _ (by omega) (by omega)
 · rcases hj with rfl | rfl | ⟨x,hx,rfl⟩
   · exact lo6 _ (by omega) (by omega)
   · exact lo6 _ (by omega) (by omega)
   · have:=ib5' x hx
     exact lo6 _ (by omega) (by omega)
 · have:zbX c (kOf (act i).2.1) (act i).2.2 (ys.map yx)=(zfH c (kOf (act i).2.1) ((act i).2.2,AV.slc N 0 0 1 1) ys).map yx:=zjl (w:=((act i).2.2,AV.slc N 0 0 1 1))
   rw [← this]
   exact p6.same (fun _=>rfl) (by omega) (Nat.le_refl _)
 · have:=p6.sid_lt hn
   have:=(ia3' x hx).2.1
   omega
 · have:=p6.sid_lt hn
   have:=(ib5' x hx).2.1
   omega
 · rw [pa3,ra]
   exact jW (c:=c) (k:=kOf (act i).2.1) (w:=((act i).2.2,AV.slc N 0 0 1 1)) yA (fun y hy=>zjD (hy0 _ hy) hkr)
 · rw [pb5,rb]
   exact jW (c:=c) (k:=kOf (act i).2.1) (w:=((act i).2.2,AV.slc N 0 0 1 1)) yB (fun y hy=>zji)
 · rcases hmem y hy with rfl | hy
   · exact hkr
   · exact hy0 _ hy
 · rcases hmem y hy with rfl | hy
   · exact ⟨new,by simp,fun x hx=>(ia3' x hx).2.2.1,fun x hx=>(ib5' x hx).2.2.1⟩
   · exact old y hy
 · exact Nat.le_trans zfc (by omega)
theorem zlI (h:InvK O N act off cap c i ys LA LB ps)(hi:i<len)(hl:len≤cap)(h1:i<100)(hk:0≤((act i).2.1).tmod 1000)
 (hK:∀ O' N' ys' LA' LB' ps',InvK O' N' act off cap c (i+1) ys' LA' LB' ps'→GK (WK off len cap ((i+1:Nat):Int) [] O' N' G)):∀ (is:Bool) (sv:AV) (sn:List UInt8) (x:Int) (O3:T AObj) (N3:Nat) (td3:List AItem) (ys':List Y) (LA3:List (Ent (List UInt8))) (LB3:List (Ent Key)),ziX O3 act off cap→LR O3 kS kcS 1 2 1 c LA3→LR O3 kK kcK 1 4 3 c LB3→Obj O3 5 [.int .i64 (c:Int),ps]→PV O3 6 N3 (ys.map yx) ps→N+1≤N3 →
  (∀ x∈LA3,∃ y∈LA,y.1=x.1)→(∀ x∈LB3,∃ y∈LB,y.1=x.1)→(∀ y∈ys',y∈ys)→ys'.length=ys.length→LA3.map (·.2)=ys'.map yA→LB3.map (·.2)=ys'.map yB→zde (kOf (act i).2.1) (ys.map yx)=ys'.map yx→(∀ y∈ys,O3.get (sid y.2.2)=O.get (sid y.2.2)) →
  (∀ b z,TB (kOf (act i).2.1) b z (ys.map yx)→b=is∧z.2=x)→(is=true→∃ y∈ys,sv=y.2.2∧sn=nm (IntKind.i64.wrap (y.2.1.tmod 500+500))∧x=y.2.1)→(is=false→sv=.nils 0 0∧sn=[]) →
  GK (AM.mk (enF 13 [.ptr 5 0 0,.int .i64 (kOf (act i).2.1)]) [(xQ off len cap ((i:Nat):Int) (act i).2.1 true is sv sn (nm (kOf (act i).2.1)))] ⟨O3,N3,G⟩):=by
 have hxl:=h.lenx
 have hall:=h
 obtain ⟨ro,ha,hb,hr,hp,hN,ia,ib,ab,pa,pb,ra,rb,hy0,va,hm⟩:=h
 have w:IntKind.i64.wrap (((i:Nat):Int)+(1:Int))=((i+1:Nat):Int):=by rw [IntKind.wrap_i64]; omega
 have bi:(0:Int)≤((i:Nat):Int)∧((i:Nat):Int)<((len:Nat):Int):=⟨by omega,by omega⟩
 have hke:(((act i).2.1).tmod (1000:Int))=kOf (act i).2.1:=by
  unfold kOf
  have:=Int.tmod_lt_of_pos (act i).2.1 (show (0:Int)<1000 by decide)
  have:=Int.lt_tmod_of_pos (act i).2.1 (show (0:Int)<1000 by decide)
  first | (rw [IntKind.wrap_i64]; omega) | omega
 have hkr:0≤kOf (act i).2.1∧kOf (act i).2.1<1000:=zbS _
 have l0:=y6 ro (show i<cap by omega) N G
 have l1:=zR ro (show i<cap by omega) 1 (by omega) N G
 have nAk:∀ x∈LA,6≤x.1:=fun x hx=>(ia x hx).1
 have nBk:∀ x∈LB,6≤x.1:=fun x hx=>(ib x hx).1
 have hsp:sid ps<N:=by
  by_cases hps:ps=.nils 0 0
  · rw [hps]; show 0<N; omega
  · exact (hp.sid_lt hps).2
 have hsp6:sid ps=0∨6≤sid ps:=by
  by_cases hps:ps=.nils 0 0
  · rw [hps]; exact .inl rfl
  · exact .inr (hp.sid_lt hps).1
 have nx:∀ (O6:T AObj) (N6:Nat) (ys':List Y) (LA6:List (Ent (List UInt8))) (LB6:List (Ent Key)) (ps6:AV),InvK O6 N6 act off cap c (i+1) ys' LA6 LB6 ps6→GK (WK off len cap (IntKind.i64.wrap (((i:Nat):Int)+(1:Int))) [] O6 N6 G):=fun O6 N6 ys' LA6 LB6 ps6 hh=>by
  rw [w]
  exact hK O6 N6 ys' LA6 LB6 ps6 hh
 have hyn:(ys.map (·.1)).Nodup:=by
  have:=hb.2.2.2.2.2.2.2.1
  have e:LB.map (·.2.1)=(ys.map (·.1)).map fun k=>(kw,k):=by
   have:=congrArg (List.map (·.1)) rb
   rw [List.map_map,List.map_map] at this
   rw [List.map_map]
   exact this
  rw [e] at this
  exact x6 this
 have hxn:((ys.map yx).map (·.1)).Nodup:=by
  rw [List.map_map]
  exact hyn
 intro is sv sn x O3 N3 td3 ys' LA3 LB3 ro3 a3 b3 r3 p3 hN3 ia3 ib3 hys hyl eA eB eR hsv hTB hT hF
 refine zhz r3 (by omega) p3 (by rw [List.length_map]; have:=lenY hall; omega) hxn fun O4 N4 ps4 td4 b z r4 p4 fr4 hN4 hb4=>?_
 obtain ⟨rfl,rfl⟩:=hTB b z hb4
 have lo4:∀ j,j<N3→j≠5→O4.get j=O3.get j:=fr4
 have iA:∀ x∈LA3,6≤x.1∧x.1<N:=fun x hx=>by obtain ⟨y,hy,e⟩:=ia3 x hx; rw [← e]; exact ia y hy
 have iB:∀ x∈LB3,6≤x.1∧x.1<N:=fun x hx=>by obtain ⟨y,hy,e⟩:=ib3 x hx; rw [← e]; exact ib y hy
 have vs4:∀ y∈ys,SV O4 1 zdE 6 N4 [y.2.1] y.2.2∧y.2.2≠.nils 0 0∧(∀ x∈LA3,x.1≠sid y.2.2)∧(∀ x∈LB3,x.1≠sid y.2.2):=fun y hy=>by
  obtain ⟨q1,q2,q3,q4⟩:=va y hy
  have hs:=q1.sid_lt q2
  refine ⟨q1.same (fun _=>(lo4 _ (by omega) (by omega)).trans (hsv y hy)) (Nat.le_refl _) (by omega),q2,fun x hx e=>?_,fun x hx e=>?_⟩
  · obtain ⟨z,hz,ez⟩:=ia3 x hx
    exact q3 z hz (by rw [ez,e])
  · obtain ⟨z,hz,ez⟩:=ib3 x hx
    exact q4 z hz (by rw [ez,e])
 have inv:∀ (O5:T AObj) (N5:Nat),N4≤N5→(∀ j,j<N4→O5.get j=O4.get j)→InvK O5 N5 act off cap c (i+1) ys' LA3 LB3 ps4:=fun O5 N5 h5 f5=>by
  have base:InvK O4 N4 act off cap c (i+1) ys' LA3 LB3 ps4:=by
   refine ⟨(lo4 0 (by omega) (by omega)).trans ro3,a3.same fun j hj=>?_,b3.same fun j hj=>?_,r4,?_,by omega,fun x hx=>⟨(iA x hx).1,by have:=iA x hx; omega⟩,fun x hx=>⟨(iB x hx).1,by have:=iB x hx; omega⟩,fun x hx y hy e=>?_,fun x hx hn=>?_,fun x hx hn=>?_,eA,eB,fun y hy=>hy0 _ (hys y hy),fun y hy=>vs4 y (hys y hy),by omega⟩
   · rcases hj with rfl | rfl | ⟨x,hx,rfl⟩
     · exact lo4 _ (by omega) (by omega)
     · exact lo4 _ (by omega) (by omega)
     · have:=iA x hx
       exact lo4 _ (by omega) (by omega)
   · rcases hj with rfl | rfl | ⟨x,hx,rfl⟩
     · exact lo4 _ (by omega) (by omega)
     · exact lo4 _ (by omega) (by omega)
     · have:=iB x hx
       exact lo4 _ (by omega) (by omega)
   · rw [← eR]
     exact p4.same (fun _=>rfl) (by omega) (Nat.le_refl _)
   · obtain ⟨z,hz,ez⟩:=ia3 x hx
     obtain ⟨z',hz',ez'⟩:=ib3 y hy
     exact ab z hz z' hz' (by rw [ez,ez',e])
   · have:=p4.sid_lt hn
     have:=(iA x hx).2
     omega
   · have:=p4.sid_lt hn
     have:=(iB x hx).2
     omega
  exact base.same h5 f5
 cases b with
 | false =>
  obtain ⟨rfl,rfl⟩:=hF rfl
  exact (Obl.goal mix (K:=GK) (fun _ h=>h) (cast (qv (fun v _=>R0 v) 0 3 [] td4 N4 O4 off len cap ((i:Nat):Int) ((act i).2.1) true false (.nils 0 0) [] z.2 (nm (kOf (act i).2.1)) 0 G GK).symm ⟨rfl,rfl,rfl,rfl,(SV.len (α:=Int) (O:=O4) (sz:=1) (enc:=zdE) (xs:=[]) (lo:=0) (hi:=0) iS SV.nil _ _),rfl,rfl,nx O4 N4 ys' LA3 LB3 ps4 (inv O4 N4 (Nat.le_refl _) fun _ _=>rfl)⟩))
 | true =>
  obtain ⟨y,hy,rfl,rfl,ez⟩:=hT rfl
  obtain ⟨q1,q2,_,_⟩:=vs4 y hy
  obtain ⟨ri,zz,o,_,_,hat,rd,_⟩:=q1.at iS iE (j:=0) (a:=y.2.1) rfl
  refine (Obl.goal mix (K:=GK) (fun _ h=>h) (cast (qj (fun v _=>R0 v) 0 3 [] td4 N4 O4 off len cap ((i:Nat):Int) ((act i).2.1) true true y.2.2 (nm (IntKind.i64.wrap (y.2.1.tmod 500+500))) z.2 (nm (kOf (act i).2.1)) ri zz o 1 y.2.1 G GK).symm ⟨rfl,rfl,rfl,q1.len iS _ _,rfl,hat,rd.load (n:=1) rfl _ _,by rw [ez]; exact bne_self_eq_false _,?_⟩))
  refine qV fun O5 td5 f5=>?_
  exact (Obl.goal mix (K:=GK) (fun _ h=>h) (cast (yl (fun v _=>R0 v) 0 3 [] td5 (N4+1) O5 off len cap ((i:Nat):Int) ((act i).2.1) true true y.2.2 (nm (IntKind.i64.wrap (y.2.1.tmod 500+500))) z.2 (nm (kOf (act i).2.1)) (nm (IntKind.i64.wrap (z.2.tmod 500+500))) ri zz o 1 y.2.1 G GK).symm ⟨by rw [ez]; simp,rfl,nx O5 (N4+1) ys' LA3 LB3 ps4 (inv O5 (N4+1) (Nat.le_succ _) f5)⟩))
theorem get_n (h:InvK O N act off cap c i ys LA LB ps)(hi:i<len)(hl:len≤cap)(h1:i<100)(hk:0≤((act i).2.1).tmod 1000)
 (hK:∀ O' N' ys' LA' LB' ps',InvK O' N' act off cap c (i+1) ys' LA' LB' ps'→GK (WK off len cap ((i+1:Nat):Int) [] O' N' G)) (hg:(act i).1=true):GK (WK off len cap ((i:Nat):Int) [] O N G):=by
 have rest3:=zlI h hi hl h1 hk hK
 have hxl:=h.lenx
 have hall:=h
 obtain ⟨ro,ha,hb,hr,hp,hN,ia,ib,ab,pa,pb,ra,rb,hy0,va,hm⟩:=h
 have w:IntKind.i64.wrap (((i:Nat):Int)+(1:Int))=((i+1:Nat):Int):=by rw [IntKind.wrap_i64]; omega
 have bi:(0:Int)≤((i:Nat):Int)∧((i:Nat):Int)<((len:Nat):Int):=⟨by omega,by omega⟩
 have hke:(((act i).2.1).tmod (1000:Int))=kOf (act i).2.1:=by
  unfold kOf
  have:=Int.tmod_lt_of_pos (act i).2.1 (show (0:Int)<1000 by decide)
  have:=Int.lt_tmod_of_pos (act i).2.1 (show (0:Int)<1000 by decide)
  first | (rw [IntKind.wrap_i64]; omega) | omega
 have hkr:0≤kOf (act i).2.1∧kOf (act i).2.1<1000:=zbS _
 have l0:=y6 ro (show i<cap by omega) N G
 have l1:=zR ro (show i<cap by omega) 1 (by omega) N G
 have nAk:∀ x∈LA,6≤x.1:=fun x hx=>(ia x hx).1
 have nBk:∀ x∈LB,6≤x.1:=fun x hx=>(ib x hx).1
 have hsp:sid ps<N:=by
  by_cases hps:ps=.nils 0 0
  · rw [hps]; show 0<N; omega
  · exact (hp.sid_lt hps).2
 have hsp6:sid ps=0∨6≤sid ps:=by
  by_cases hps:ps=.nils 0 0
  · rw [hps]; exact .inl rfl
  · exact .inr (hp.sid_lt hps).1
 refine (Obl.goal mix (K:=GK) (fun _ h=>h) (cast (zkc (fun v _=>R0 v) 0 3 [] N O off len cap ((i:Nat):Int) ((act i).2.1) true G GK).symm ⟨decide_eq_true (by omega),decide_eq_true (by omega),bi,l1,decide_eq_false (by omega),bi,by rw [l0,hg],rfl,?_⟩))
 rw [hke]
 refine qV fun O2 td2 f2=>?_
 have hI2:=hall.same (Nat.le_succ _) f2
 refine (Obl.goal mix (K:=GK) (fun _ h=>h) (cast (zf8 (fun v _=>R0 v) 0 3 [] td2 (N+1) O2 off len cap ((i:Nat):Int) ((act i).2.1) true (nm (kOf (act i).2.1)) G GK).symm ?_))
 have nx:∀ (O6:T AObj) (N6:Nat) (ys':List Y) (LA6:List (Ent (List UInt8))) (LB6:List (Ent Key)) (ps6:AV),InvK O6 N6 act off cap c (i+1) ys' LA6 LB6 ps6→GK (WK off len cap (IntKind.i64.wrap (((i:Nat):Int)+(1:Int))) [] O6 N6 G):=fun O6 N6 ys' LA6 LB6 ps6 hh=>by
  rw [w]
  exact hK O6 N6 ys' LA6 LB6 ps6 hh
 have hyn:(ys.map (·.1)).Nodup:=by
  have:=hb.2.2.2.2.2.2.2.1
  have e:LB.map (·.2.1)=(ys.map (·.1)).map fun k=>(kw,k):=by
   have:=congrArg (List.map (·.1)) rb
   rw [List.map_map,List.map_map] at this
   rw [List.map_map]
   exact this
  rw [e] at this
  exact x6 this
 have hxn:((ys.map yx).map (·.1)).Nodup:=by
  rw [List.map_map]
  exact hyn
 refine zhr hI2.a (by omega) (by omega) (fun x hx=>(hI2.ia x hx).2) (fun x hx=>?_) (fun hk O3 td3 a3 f3=>?_) fun p s u ws O3 td3 hL hpk hps a3 f3=>?_
 · have:(x.2)∈LA.map (·.2):=List.mem_map_of_mem hx
   rw [ra] at this
   obtain ⟨y,hy,e⟩:=List.mem_map.1 this
   exact ⟨y.2.2,by rw [← e]; rfl⟩
 ·
  have hky:∀ y∈ys,y.1≠kOf (act i).2.1:=fun y hy e=>by
   have:yA y∈LA.map (·.2):=by rw [ra]; exact List.mem_map_of_mem hy
   obtain ⟨x,hx,ex⟩:=List.mem_map.1 this
   exact hk x hx (by rw [ex,← e]; rfl)
  refine (Obl.goal mix (K:=GK) (fun _ h=>h) (cast (kD (fun v _=>R0 v) 0 3 [] td3 (N+1) O3 off len cap ((i:Nat):Int) ((act i).2.1) true false (.nils 0 0) (nm (kOf (act i).2.1)) G GK).symm ?_))
  rw [hke]
  have b3:=hI2.b.low (N:=N+1) (by omega) (by omega) (fun x hx=>by have:=ib x hx; omega) f3
  refine zb5 b3 (by omega) (by omega) (fun x hx=>by have:=ib x hx; omega) (fun x hx=>?_) (fun hk4 O4 td4 b4 f4=>?_) fun p4 s4 u4 w4 O4 td4 hL4 hpk4 _ _ _=>?_
  · have:(x.2)∈LB.map (·.2):=List.mem_map_of_mem hx
    rw [rb] at this
    obtain ⟨y,hy,e⟩:=List.mem_map.1 this
    exact ⟨_,by rw [← e]; rfl⟩
  · refine (Obl.goal mix (K:=GK) (fun _ h=>h) (cast (qC (fun v _=>R0 v) 0 3 [] td4 (N+1+2) O4 off len cap ((i:Nat):Int) ((act i).2.1) true false (.nils 0 0) [] (nm (kOf (act i).2.1)) G GK).symm ?_))
    rw [hke]
    have low:∀ j,j<N→O4.get j=O.get j:=fun j hj=>(f4 j (by omega)).trans ((f3 j (by omega)).trans (f2 j hj))
    refine rest3 false _ _ 0 O4 (N+1+2) td4 ys LA LB ((low 0 (by omega)).trans ro) (ha.low (N:=N) (by omega) (by omega) (fun x hx=>(ia x hx).2) low) b4 (hr.same (low 5 (by omega))) (hp.keep (fun j _ hj=>low j hj) (Nat.le_refl _) (by omega)) (by omega) (fun x hx=>⟨x,hx,rfl⟩) (fun x hx=>⟨x,hx,rfl⟩) (fun y hy=>hy) rfl ra rb ?_ (fun y hy=>low _ ((va y hy).1.sid_lt (va y hy).2.1).2) (fun b z hz=>?_) (fun e=>by cases e) (fun _=>⟨rfl,rfl⟩)
    · unfold zde
      have hq:∀ q∈ys.map yx,q.1≠kOf (act i).2.1:=fun q hq=>by obtain ⟨y,hy,rfl⟩:=List.mem_map.1 hq; exact hky y hy
      rw [zdz hq,zeH hq,List.nil_append]
    · rcases hz with ⟨_,e1,e2⟩ | ⟨rfl,rfl,_⟩
      · obtain ⟨y,hy,rfl⟩:=List.mem_map.1 e2
        exact absurd e1 (hky y hy)
      · exact ⟨rfl,rfl⟩
  · exfalso
    have:p4.2∈LB.map (·.2):=by rw [hL4]; simp
    rw [rb] at this
    obtain ⟨y,hy,e⟩:=List.mem_map.1 this
    have e1:p4.2.1=(kw,y.1):=by rw [← e]; rfl
    rw [e1] at hpk4
    exact hky y hy (Prod.mk.inj hpk4).2
 ·
  subst hL
  have hmA:yA∘id=yA:=rfl
  obtain ⟨yu,y,yw,hyeq,eu,ey,ew⟩:=zaG (show ys.map yA=u.map (·.2)++p.2::ws.map (·.2) by rw [← ra,List.map_append,List.map_cons])
  have hyk:y.1=kOf (act i).2.1:=by
   have e1:nm y.1=p.2.1:=by rw [← ey]; rfl
   rw [hpk] at e1
   exact zgz (hy0 _ (by rw [hyeq]; simp)) hkr e1
  have hys:s=y.2.2:=by
   have e1:p.2.2=[y.2.2]:=by rw [← ey]; rfl
   rw [hps] at e1
   exact (List.cons.inj e1).1
  subst hys
  have hym:y∈ys:=by rw [hyeq]; simp
  refine (Obl.goal mix (K:=GK) (fun _ h=>h) (cast (kD (fun v _=>R0 v) 0 3 [] td3 (N+1) O3 off len cap ((i:Nat):Int) ((act i).2.1) true true y.2.2 (nm (kOf (act i).2.1)) G GK).symm ?_))
  rw [hke]
  have loA:∀ j,j<N→j≠2→(∀ z∈u++p::ws,z.1≠j)→O3.get j=O.get j:=fun j hj e1 e2=>(f3 j e1 e2).trans (f2 j hj)
  have b3:LR O3 kK kcK 1 4 3 c LB:=hI2.b.same fun j hj=>by
   rcases hj with rfl | rfl | ⟨x,hx,rfl⟩
   · exact f3 _ (by omega) fun z hz=>by have:=nAk z hz; omega
   · exact f3 _ (by omega) fun z hz=>by have:=nAk z hz; omega
   · exact f3 _ (by have:=ib x hx; omega) fun z hz=>ab z hz x hx
  refine zb5 b3 (by omega) (by omega) (fun x hx=>by have:=ib x hx; omega) (fun x hx=>?_) (fun hk4 O4 td4 b4 f4=>?_) fun p4 s4 u4 w4 O4 td4 hL4 hpk4 hps4 b4 f4=>?_
  · have:(x.2)∈LB.map (·.2):=List.mem_map_of_mem hx
    rw [rb] at this
    obtain ⟨y,hy,e⟩:=List.mem_map.1 this
    exact ⟨_,by rw [← e]; rfl⟩
  · exfalso
    have:yB y∈LB.map (·.2):=by rw [rb]; exact List.mem_map_of_mem hym
    obtain ⟨x,hx,ex⟩:=List.mem_map.1 this
    exact hk4 x hx (by rw [ex]; show (kw,y.1)=_; rw [hyk]; rfl)
  · subst hL4
    obtain ⟨zu,z,zw,hzeq,fu,fy,fw⟩:=zaG (show ys.map yB=u4.map (·.2)++p4.2::w4.map (·.2) by rw [← rb,List.map_append,List.map_cons])
    have hzk:z.1=kOf (act i).2.1:=by
     have e1:(kw,z.1)=p4.2.1:=by rw [← fy]; rfl
     rw [hpk4] at e1
     exact (Prod.mk.inj e1).2
    have hzm:z∈ys:=by rw [hzeq]; simp
    have hzy:z=y:=vR hyn y hym z hzm (by rw [hzk,hyk])
    subst hzy
    obtain ⟨rfl,rfl⟩:=jd (f:=fun y:Y=>y.1) (u':=yu) (w':=yw) (a:=z) (by rw [← hyeq]; exact hyn) (hzeq.symm.trans hyeq)
    have hs4:s4=nm (IntKind.i64.wrap (z.2.1.tmod 500+500)):=by
     have e1:p4.2.2=[AV.str (nm (IntKind.i64.wrap (z.2.1.tmod 500+500)))]:=by rw [← fy]; rfl
     rw [hps4] at e1
     exact AV.str.inj (List.cons.inj e1).1
    subst hs4
    refine (Obl.goal mix (K:=GK) (fun _ h=>h) (cast (qC (fun v _=>R0 v) 0 3 [] td4 (N+1+2) O4 off len cap ((i:Nat):Int) ((act i).2.1) true true z.2.2 (nm (IntKind.i64.wrap (z.2.1.tmod 500+500))) (nm (kOf (act i).2.1)) G GK).symm ?_))
    rw [hke]
    have lo4:∀ j,j<N→j≠2→j≠4→(∀ z∈u++p::ws,z.1≠j)→(∀ z∈u4++p4::w4,z.1≠j)→O4.get j=O.get j:=fun j hj e1 e2 e3 e4=>(f4 j (by omega) e2 e4).trans (loA j hj e1 e3)
    have nA:∀ j,j<6→∀ z∈u++p::ws,z.1≠j:=fun j hj z hz=>by have:=nAk z hz; omega
    have nB:∀ j,j<6→∀ z∈u4++p4::w4,z.1≠j:=fun j hj z hz=>by have:=nBk z hz; omega
    have inA:∀ x∈p::(u++ws),x∈u++p::ws:=fun x hx=>by
     rcases List.mem_cons.1 hx with rfl | hx
     · simp
     · rcases List.mem_append.1 hx with b | b
       · exact List.mem_append_left _ b
       · exact List.mem_append_right _ (List.mem_cons_of_mem _ b)
    have inB:∀ x∈p4::(u4++w4),x∈u4++p4::w4:=fun x hx=>by
     rcases List.mem_cons.1 hx with rfl | hx
     · simp
     · rcases List.mem_append.1 hx with b | b
       · exact List.mem_append_left _ b
       · exact List.mem_append_right _ (List.mem_cons_of_mem _ b)
    refine rest3 true _ _ z.2.1 O4 (N+1+2) td4 (z::(zu++zw)) (p::(u++ws)) (p4::(u4++w4)) ((lo4 0 (by omega) (by omega) (by omega) (nA 0 (by omega)) (nB 0 (by omega))).trans ro) (a3.same fun j hj=>?_) b4 (hr.same (lo4 5 (by omega) (by omega) (by omega) (nA 5 (by omega)) (nB 5 (by omega)))) (hp.same (fun hn=>lo4 _ hsp (by have:=hp.sid_lt hn; omega) (by have:=hp.sid_lt hn; omega) (fun z hz=>pa z hz hn) (fun z hz=>pb z hz hn)) (Nat.le_refl _) (by omega)) (by omega) (fun x hx=>⟨x,inA x hx,rfl⟩) (fun x hx=>⟨x,inB x hx,rfl⟩) (fun x hx=>?_) (by rw [hzeq]; simp only [List.length_cons,List.length_append]; omega) ?_ ?_ ?_ (fun x hx=>?_) (fun b q hq=>?_) (fun _=>⟨z,hzm,rfl,rfl,rfl⟩) (fun e=>by cases e)
    · rcases hj with rfl | rfl | ⟨x,hx,rfl⟩
      · exact f4 _ (by omega) (by omega) (nB 2 (by omega))
      · exact f4 _ (by omega) (by omega) (nB 1 (by omega))
      · have hxA:=inA x hx
        have:=ia x hxA
        exact f4 _ (by omega) (by omega) fun z hz e=>ab x hxA z hz e.symm
    · rw [hzeq]
      rcases List.mem_cons.1 hx with rfl | hx
      · simp
      · rcases List.mem_append.1 hx with b | b
        · exact List.mem_append_left _ b
        · exact List.mem_append_right _ (List.mem_cons_of_mem _ b)
    · rw [List.map_cons,List.map_append,List.map_cons,List.map_append,ey,eu,ew]
    · rw [List.map_cons,List.map_append,List.map_cons,List.map_append,fy,fu,fw]
    · have e1:yx z∈ys.map yx:=List.mem_map_of_mem hzm
      rw [zck e1 hzk hxn,List.map_cons,List.map_append]
      congr 1
      rw [hzeq,List.map_append,List.map_cons]
      have hnn:=hxn
      rw [hzeq,List.map_append,List.map_cons,List.map_append,List.map_cons] at hnn
      obtain ⟨m1,m2⟩:=xO hnn
      rw [← List.map_append] at m2
      have hu:∀ q∈zu.map yx++zw.map yx,q.1≠kOf (act i).2.1:=fun q hq e=>m2 (by rw [show (yx z).1=kOf (act i).2.1 from hzk,← e]; exact List.mem_map_of_mem hq)
      rw [List.filter_append,List.filter_cons,if_neg (by simp [yx,hzk]),zeH fun q hq=>hu q (List.mem_append_left _ hq),zeH fun q hq=>hu q (List.mem_append_right _ hq)]
    · obtain ⟨q1,q2,q3,q4⟩:=va x hx
      have hs:=q1.sid_lt q2
      exact lo4 _ (by omega) (by omega) (by omega) q3 q4
    · have e1:yx z∈ys.map yx:=List.mem_map_of_mem hzm
      rcases hq with ⟨rfl,a1,a2⟩ | ⟨rfl,rfl,a1⟩
      · refine ⟨rfl,?_⟩
        have:=vR hxn (yx z) e1 q a2 (by rw [a1]; exact hzk.symm)
        rw [this]
        rfl
      · exact absurd hzk (a1 _ e1)
theorem zkU (h:InvK O N act off cap c i ys LA LB ps)(hi:i<len)(hl:len≤cap)(h1:i<100)(hk:0≤((act i).2.1).tmod 1000)
 (hK:∀ O' N' ys' LA' LB' ps',InvK O' N' act off cap c (i+1) ys' LA' LB' ps'→GK (WK off len cap ((i+1:Nat):Int) [] O' N' G)):GK (WK off len cap ((i:Nat):Int) [] O N G):=by
 cases hg:(act i).1 with
 | false=>exact put_n h hi hl h1 hk hK hg
 | true=>exact get_n h hi hl h1 hk hK hg
theorem zjv (h:InvK O N act off cap c m ys LA LB ps)(hd:(decide (((i:Nat):Int)<((len:Nat):Int))=false)∨(decide (((i:Nat):Int)<((len:Nat):Int))=true∧decide (((i:Nat):Int)<(100:Int))=false)):GK (WK off len cap ((i:Nat):Int) [] O N G):=by
 have lA:=congrArg List.length h.ra
 have lB:=congrArg List.length h.rb
 rw [List.length_map,List.length_map] at lA lB
 have ka:=h.a.2.2.1.load N G
 have kb:=h.b.2.2.1.load N G
 rw [lA] at ka
 rw [lB] at kb
 have lp:za ⟨O,N,G⟩ 5 0 1 1=some [ps]:=h.r.load 1 N G (Nat.le_of_ble_eq_true rfl)
 rcases h.p with ⟨rfl,e⟩ | ⟨ri,z,o,cp,rfl,_⟩ | ⟨ri,z,st,rfl,_⟩
 · have hy:ys.length=0:=by rw [List.map_eq_nil_iff.1 e]; rfl
   rw [hy] at ka kb
   rcases hd with hd | ⟨hd,hd'⟩
   · exact (Obl.goal mix (K:=GK) (fun _ h=>h) (cast (zls R0 ((0:Nat):Int) N O off len cap ((i:Nat):Int) G GK).symm ⟨hd,lp,ka,trivial,rfl,lp,beq_self_eq_true _,lp,kb,trivial,rfl,lp,beq_self_eq_true _,yQ,rfl⟩))
   · exact (Obl.goal mix (K:=GK) (fun _ h=>h) (cast (zj8 R0 ((0:Nat):Int) N O off len cap ((i:Nat):Int) G GK).symm ⟨hd,hd',lp,ka,trivial,rfl,lp,beq_self_eq_true _,lp,kb,trivial,rfl,lp,beq_self_eq_true _,yQ,rfl⟩))
 · rw [List.length_map] at lp
   rcases hd with hd | ⟨hd,hd'⟩
   · exact (Obl.goal mix (K:=GK) (fun _ h=>h) (cast (zlf R0 ((ys.length:Nat):Int) N O off len cap ((i:Nat):Int) ri z o ys.length cp G GK).symm ⟨hd,lp,ka,trivial,rfl,lp,beq_self_eq_true _,lp,kb,trivial,rfl,lp,beq_self_eq_true _,yQ,rfl⟩))
   · exact (Obl.goal mix (K:=GK) (fun _ h=>h) (cast (zkj R0 ((ys.length:Nat):Int) N O off len cap ((i:Nat):Int) ri z o ys.length cp G GK).symm ⟨hd,hd',lp,ka,trivial,rfl,lp,beq_self_eq_true _,lp,kb,trivial,rfl,lp,beq_self_eq_true _,yQ,rfl⟩))
 · rw [List.length_map] at lp
   rcases hd with hd | ⟨hd,hd'⟩
   · exact (Obl.goal mix (K:=GK) (fun _ h=>h) (cast (zlA R0 ((ys.length:Nat):Int) N O off len cap ((i:Nat):Int) ri z (st*2) ys.length st G GK).symm ⟨hd,lp,ka,trivial,rfl,lp,beq_self_eq_true _,lp,kb,trivial,rfl,lp,beq_self_eq_true _,yQ,rfl⟩))
   · exact (Obl.goal mix (K:=GK) (fun _ h=>h) (cast (zkx R0 ((ys.length:Nat):Int) N O off len cap ((i:Nat):Int) ri z (st*2) ys.length st G GK).symm ⟨hd,hd',lp,ka,trivial,rfl,lp,beq_self_eq_true _,lp,kb,trivial,rfl,lp,beq_self_eq_true _,yQ,rfl⟩))
theorem zkE (hl:len≤cap):∀ (d i:Nat) (O:T AObj) (N:Nat) (ys:List Y) (LA:List (Ent (List UInt8))) (LB:List (Ent Key)) (ps:AV),i+d=100→InvK O N act off cap c i ys LA LB ps→GK (WK off len cap ((i:Nat):Int) [] O N G)
 | d,i,O,N,ys,LA,LB,ps,hd,h=>by
  by_cases hi:i<len
  rotate_left
  · exact zjv h (.inl (decide_eq_false (by omega)))
  cases d with
  | zero=>exact zjv h (.inr ⟨decide_eq_true (by omega),decide_eq_false (by omega)⟩)
  | succ d =>
   by_cases hk:(act i).2.1.tmod 1000<0
   · exact zjW h hi hl (by omega) hk fun O' N' ys' LA' LB' ps' h'=>zkE hl d (i+1) O' N' ys' LA' LB' ps' (by omega) h'
   · exact zkU h hi hl (by omega) (by omega) fun O' N' ys' LA' LB' ps' h'=>zkE hl d (i+1) O' N' ys' LA' LB' ps' (by omega) h'
end
end Go.Proofs.Ytjddelgojkgnaaa.gx
end
