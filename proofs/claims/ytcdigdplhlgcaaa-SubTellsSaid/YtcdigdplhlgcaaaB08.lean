import Derived.Test.YtcdigdplhlgcaaaB00
import Derived.Test.YtcdigdplhlgcaaaB01
import Derived.Test.YtcdigdplhlgcaaaB02
import Derived.Test.YtcdigdplhlgcaaaB03
import Derived.Test.YtcdigdplhlgcaaaB04
import Derived.Test.YtcdigdplhlgcaaaB05
import Derived.Test.YtcdigdplhlgcaaaB06
import Derived.Test.YtcdigdplhlgcaaaB07
section
set_option maxRecDepth 100000
set_option linter.unusedVariables false
set_option linter.unusedSectionVars false
set_option linter.unusedSimpArgs false
namespace Go.Proofs.Ytcdigdplhlgcaaa.gx
open Go Ev tp
section
variable (sn sa sn2:AV) (j j2:Int) (m:Nat) (rest:List AFrame) (O:T AObj) (N:Nat) (G:T (T AV)) (i1 i2 i3 i4 i5 i6:Nat) (z1:Int) (l1 l2:List UInt8)
noncomputable def zp9:AFrame:=⟨23,135,(tW (tW tZ sa (tX (tX (tY sa) tZ) tZ)) sn (tX (tX (tX (tY (.bool false)) tZ) tZ) tZ)),   [.ops (rg P 23 [1,0,0]).toList ((rg P 23 [1,0,0]).toList.drop 7),.code (cd P 23 [1,0,1]),.code (cd P 23 [1,1])],[],.run,CallKind.normal,none⟩
noncomputable def Wrec:AM:=⟨⟨23,135,(tW (tW (tX (tY (.int .i64 j)) tZ) sa tZ) sn (tX tZ (tY (.ptr m 0 0)))),   [.code (cd P 23 [1,1,1,0,1,0,0]),.inLoop (cd P 23 [1,1,1,0,1,0,0]),.inBlock 0,.code (cd P 23 [1,1,1,1])],[],.run,CallKind.normal,none⟩,rest,⟨O,N,G⟩⟩
noncomputable def zog:AFrame:=⟨23,135,(tW (tW (tX (tY (.int .i64 j)) tZ) sa tZ) sn (tX (tX (tX (tX (tY (.str l1)) tZ) tZ) tZ) (tY (.ptr m 0 0)))),   [.ops (rg P 23 [1,1,1,0,1,0,0,1,0,0,0,0]).toList ((rg P 23 [1,1,1,0,1,0,0,1,0,0,0,0]).toList.drop 4),.code (cd P 23 [1,1,1,0,1,0,0,1,0,0,0,1]),.code (cd P 23 [1,1,1,0,1,0,0,1,0,0,1]),.inBlock 1,.code (cd P 23 [1,1,1,0,1,0,0,1,1]),.inLoop (cd P (23:FuncId) [1,1,1,0,1,0,0]),.inBlock 0,.code (cd P (23:FuncId) [1,1,1,1])],[],.run,CallKind.normal,none⟩
noncomputable def znx:AFrame:=⟨23,135,(tX (tX (tX tZ (tX (tX (tX (tX (tY (.ptr m 0 0)) tZ) tZ) tZ) tZ)) tZ) tZ),   [.ops (rg P 23 [1,1,1,1,0]).toList ((rg P 23 [1,1,1,1,0]).toList.drop 1),.code (cd P 23 [1,0,1,0,1])],[],.run,CallKind.normal,none⟩
noncomputable def Wrei:AM:=⟨⟨23,135,(tW (tW (tX (tY (.int .i64 j)) tZ) sa tZ) sn (tX (tX (tY (.int .i64 j2)) tZ) (tY (.ptr m 0 0)))),   [.code (cd P 23 [1,1,1,0,1,0,0,1,0,0,1,1,0,0,0]),.inLoop (cd P 23 [1,1,1,0,1,0,0,1,0,0,1,1,0,0,0]),.inBlock 2,.code (cd P 23 [1,1,1,0,1,0,0,1,0,0,1,1,1]),.inBlock 1,.code (cd P (23:FuncId) [1,1,1,0,1,0,0,1,1]),.inLoop (cd P (23:FuncId) [1,1,1,0,1,0,0]),.inBlock 0,.code (cd P (23:FuncId) [1,1,1,1])],[],.run,CallKind.normal,none⟩,rest,⟨O,N,G⟩⟩
noncomputable def znp:AFrame:=⟨23,135,(tW (tW (tX (tW (tX tZ (tY (.int .i64 j2))) (.int .i64 j) (tX (tY sn2) tZ)) (tX (tX (tY (.int .i64 j2)) (tY (.int .i64 j))) (tX (tY (.ptr m 0 0)) tZ))) sa (tX (tX (tX tZ (tY (.str l1))) (tX (tY (.bool (decide (j2<z1)))) tZ)) (tX (tX (tY (.ptr m 0 0)) (tY (.str l2))) (tX (tY (.ptr m 0 2)) tZ)))) sn (tX (tX (tW (tX tZ (tY (.ptr i1 i2 i3))) (.int .i64 j2) (tX (tY (.int .i64 z1)) tZ)) (tX (tX (tY (.ptr m 0 0)) (tY (.ptr i4 i5 i6))) (tX (tY (.ptr m 0 0)) tZ))) (tW (tX (tX tZ (tY sn)) (tX (tY (.bool true)) tZ)) (.ptr m 0 0) (tX (tX (tY (.ptr m 0 2)) tZ) (tX (tY sn2) tZ))))),   [.drw (rg P 23 [1,1,1,0,1,0,0,1,0,0,1,1,0,0,0,0,0]) [19,20] [18,17,16,15,14,13,12,11,10,9,8,7,6,5,4,3,2,1,0],.code (cd P 23 [1,1,1,0,1,0,0,1,0,0,1,1,0,0,0,0,1]),.code (cd P 23 [1,1,1,0,1,0,0,1,0,0,1,1,0,0,0,1]),.inLoop (cd P (23:FuncId) [1,1,1,0,1,0,0,1,0,0,1,1,0,0,0]),.inBlock 2,.code (cd P (23:FuncId) [1,1,1,0,1,0,0,1,0,0,1,1,1]),.inBlock 1,.code (cd P (23:FuncId) [1,1,1,0,1,0,0,1,1]),.inLoop (cd P (23:FuncId) [1,1,1,0,1,0,0]),.inBlock 0,.code (cd P (23:FuncId) [1,1,1,1])],[],.run,CallKind.normal,none⟩
noncomputable def Wrea:AM:=⟨⟨23,135,(tW (tW (tX (tY (.int .i64 j)) tZ) sa tZ) sn (tX (tX (tY (.int .i64 j2)) tZ) (tY (.ptr m 0 0)))),   [.code (cd P (23:FuncId) [1,1,1,0,1,0,0,1,0,0,1,1,1]),.inBlock 1,.code (cd P (23:FuncId) [1,1,1,0,1,0,0,1,1]),.inLoop (cd P (23:FuncId) [1,1,1,0,1,0,0]),.inBlock 0,.code (cd P (23:FuncId) [1,1,1,1])],[],.run,CallKind.normal,none⟩,rest,⟨O,N,G⟩⟩
noncomputable def Wreb:AM:=⟨⟨23,135,(tW (tW (tX (tY (.int .i64 j)) tZ) sa tZ) sn (tX (tX (tY (.int .i64 j2)) tZ) (tY (.ptr m 0 0)))),   [.code (cd P 23 [1,1,1,0,1,0,0,1,0,0,1,1,1,1]),.inBlock 1,.code (cd P (23:FuncId) [1,1,1,0,1,0,0,1,1]),.inLoop (cd P (23:FuncId) [1,1,1,0,1,0,0]),.inBlock 0,.code (cd P (23:FuncId) [1,1,1,1])],[],.run,CallKind.normal,none⟩,rest,⟨O,N,G⟩⟩
end
section
variable {R:AV→AHeap→Prop} {keep N m i1c i2c i3c i4c i5c i6c:Nat} {f0:FuncId} {rest:List AFrame} {O:T AObj} {sn sa prq0 sn2 sa2:AV} {G:T (T AV)} {K:AM→Prop} {td:List AItem} {blq0:Bool} {j crq0 j2 z1c:Int} {l1c l2c:List UInt8}
theorem t_rec:(∃ (z1:Int) (z2:Int),(lN O N G 32 sn z1)∧(lN O N G 33 sa z2)∧(((z1 != z2))=true→(K (AM.mk (RF 23 135 (tX (tX tZ (tY (.int .i64 2))) (tX (tY .nilp) tZ)) [.code (cd P 23 [1,0,1,0,1]),.code (cd P 23 [1,1])]) rest ⟨O,N,G⟩)))∧(((z1 != z2))=false→(K (AM.mk (enF 62 [sa]) ((zp9 sn sa)::rest) ⟨O,N,G⟩))))=OT f0 R keep K (.ex fun z1:Int=>(.ex fun z2:Int=>(.seq [.run 9,.hopn (.int .i64 z1) O (N),.run 1,.hopn (.int .i64 z2) O (N),.run 2] (.fork 16 (.seq [.run 12,.keep [4,5]] .fin) (.seq [.run 1,.keep [0,1,16,17],.run 1] .fin))))) ((AM.mk (enF 23 [sn,sa]) rest ⟨O,N,G⟩)):=by kernel_rfl
theorem zjS:((((!blq0))=true→(K (AM.mk (RF 23 135 (tX (tX tZ (tY (.int .i64 2))) (tX (tY .nilp) tZ)) [.code (cd P 62 [1,0,1,0,0,1,0,0,1,0,1]),.code (cd P (23:FuncId) [1,1])]) rest ⟨O,N,G⟩)))∧(((!blq0))=false→(∃ (O1:T AObj),(T.set ((some (.cells (tW (tW (tY (.nils 0 0)) (.str []) tZ) (.int .i64 7) (tW (tY .nilp) (.nils 0 0) tZ)) 5 44 0 0 1 0 false .leaf))) (O) (N)=O1)∧K (Wrec sn sa 0 N rest O1 (N+1) G))))=OT f0 R keep K (.seq [.run 4] (.fork 20 (.seq [.run 7,.keep [4,5]] .fin) (.ex fun O1:T AObj=>(.seq [.run 5,.hop (.nilp) O1,.run 9,.keep [0,1,6,7]] .fin)))) ((AM.mk (RF 62 16 (tX tZ (tY (.bool blq0))) td) ((zp9 sn sa)::rest) ⟨O,N,G⟩)):=by kernel_rfl
theorem znT:(∃ (z1:Int),(lN O N G 32 sn z1)∧((decide (j<z1))=true→(∃ (i1:Nat) (i2:Nat) (i3:Nat) (l1:List UInt8),(iX 32 sn j i1 i2 i3)∧(lR O N G i1 i2 i3 (.str l1))∧K (AM.mk (enF 63 [.str l1]) ((zog sn sa j m l1)::rest) ⟨O,N,G⟩)))∧((decide (j<z1))=false→(K (AM.mk (enF 65 [.ptr m 0 0]) ((znx m)::rest) ⟨O,N,G⟩))))=OT f0 R keep K (.ex fun z1:Int=>(.seq [.run 5,.hopn (.int .i64 z1) O (N),.run 2] (.fork 26 (.ex fun i1:Nat=>(.ex fun i2:Nat=>(.ex fun i3:Nat=>(.ex fun l1:List UInt8=>(.seq [.run 9,.hopn (.ptr i1 i2 i3) O (N),.hop (.str l1) O,.keep [0,1,6,7,32],.run 1] .fin))))) (.seq [.run 5,.keep [131],.run 1] .fin)))) ((Wrec sn sa j m rest O N G)):=by kernel_rfl
theorem ziN:((((!blq0))=true→(K (AM.mk (RF 23 135 (tX (tX tZ (tY (.int .i64 2))) (tX (tY .nilp) tZ)) [.code (cd P 63 [1,0,1,0,1]),.code (cd P (23:FuncId) [1,1,1,0,1,0,0,1,0,0,1]),.inBlock 1,.code (cd P (23:FuncId) [1,1,1,0,1,0,0,1,1]),.inLoop (cd P (23:FuncId) [1,1,1,0,1,0,0]),.inBlock 0,.code (cd P (23:FuncId) [1,1,1,1])]) rest ⟨O,N,G⟩)))∧(((!blq0))=false→(K (Wrei sn sa j 0 m rest O N G))))=OT f0 R keep K (.seq [.run 3] (.fork 34 (.seq [.run 7,.keep [4,5]] .fin) (.seq [.run 9,.keep [0,1,6,7,8]] .fin))) ((AM.mk (RF 63 41 (tX tZ (tY (.bool blq0))) td) ((zog sn sa j m l1c)::rest) ⟨O,N,G⟩)):=by kernel_rfl
theorem zcu:(K (AM.mk (RF 23 135 (tX (tX tZ (tY (.int .i64 crq0))) (tX (tY prq0) tZ)) [.code (cd P (23:FuncId) [1,0,1,0,1])]) rest ⟨O,N,G⟩))=OT f0 R keep K (.seq [.run 7,.keep [4,5]] .fin) ((AM.mk (RF 65 8 (tX (tX (tY (.int .i64 crq0)) tZ) (tY prq0)) td) ((znx m)::rest) ⟨O,N,G⟩)):=by kernel_rfl
theorem zm4:(∃ (z1:Int),(lC O N G m 2 sn2)∧(lN O N G 32 sn2 z1)∧((decide (j2<z1))=true→(∃ (i1:Nat) (i2:Nat) (i3:Nat) (l1:List UInt8) (i4:Nat) (i5:Nat) (i6:Nat) (l2:List UInt8),(lC O N G m 2 sn2)∧(iX 32 sn2 j2 i1 i2 i3)∧(lR O N G i1 i2 i3 (.str l1))∧(iX 32 sn j i4 i5 i6)∧(lR O N G i4 i5 i6 (.str l2))∧K (AM.mk (enF 64 [.str l1,.str l2]) ((znp sn sa sn2 j j2 m i1 i2 i3 i4 i5 i6 z1 l1 l2)::rest) ⟨O,N,G⟩)))∧((decide (j2<z1))=false→(K (Wrea sn sa j j2 m rest O N G))))=OT f0 R keep K (.ex fun z1:Int=>(.seq [.run 7,.hop (sn2) O,.hopn (.int .i64 z1) O (N),.run 2] (.fork 42 (.ex fun i1:Nat=>(.ex fun i2:Nat=>(.ex fun i3:Nat=>(.ex fun l1:List UInt8=>(.ex fun i4:Nat=>(.ex fun i5:Nat=>(.ex fun i6:Nat=>(.ex fun l2:List UInt8=>(.seq [.run 3,.hop (sn2) O,.run 1,.hopn (.ptr i1 i2 i3) O (N),.hop (.str l1) O,.run 2,.hopn (.ptr i4 i5 i6) O (N),.hop (.str l2) O,.run 1] .fin))))))))) (.seq [.run 16,.keep [0,1,6,7,8]] .fin)))) ((Wrei sn sa j j2 m rest O N G)):=by kernel_rfl
theorem ziO:(((blq0)=true→(K (Wrei sn sa j (IntKind.i64.wrap (j2+(1:Int))) m rest O N G)))∧((blq0)=false→(K (Wrea sn sa j j2 m rest O N G))))=OT f0 R keep K (.seq [.run 3] (.fork 55 (.seq [.run 10,.keep [0,1,6,7,8]] .fin) (.seq [.run 2,.keep [0,1,6,7,8]] .fin))) ((AM.mk (RF 64 37 (tX tZ (tX (tY (.bool blq0)) tZ)) td) ((znp sn sa sn2 j j2 m i1c i2c i3c i4c i5c i6c z1c l1c l2c)::rest) ⟨O,N,G⟩)):=by kernel_rfl
theorem znk:(∃ (z1:Int),(lC O N G m 2 sn2)∧(lN O N G 32 sn2 z1)∧((decide (j2<z1))=true→(∃ (i1:Nat) (i2:Nat) (i3:Nat) (l1:List UInt8) (i4:Nat) (i5:Nat) (i6:Nat) (l2:List UInt8),(lC O N G m 2 sn2)∧(iX 32 sn2 j2 i1 i2 i3)∧(lR O N G i1 i2 i3 (.str l1))∧(iX 32 sn j i4 i5 i6)∧(lR O N G i4 i5 i6 (.str l2))∧(((l1==l2))=true→(K (AM.mk (RF 23 135 (tX (tX tZ (tY (.int .i64 2))) (tX (tY .nilp) tZ)) [.code (cd P 23 [1,0,1,0,1]),.code (cd P 23 [1,1,1,0,1,0,0,1,0,0,1,1,1,1]),.inBlock 1,.code (cd P (23:FuncId) [1,1,1,0,1,0,0,1,1]),.inLoop (cd P (23:FuncId) [1,1,1,0,1,0,0]),.inBlock 0,.code (cd P (23:FuncId) [1,1,1,1])]) rest ⟨O,N,G⟩)))∧(((l1==l2))=false→(K (Wreb sn sa j j2 m rest O N G)))))∧((decide (j2<z1))=false→(K (Wreb sn sa j j2 m rest O N G))))=OT f0 R keep K (.ex fun z1:Int=>(.seq [.run 7,.hop (sn2) O,.hopn (.int .i64 z1) O (N),.run 2] (.fork 65 (.ex fun i1:Nat=>(.ex fun i2:Nat=>(.ex fun i3:Nat=>(.ex fun l1:List UInt8=>(.ex fun i4:Nat=>(.ex fun i5:Nat=>(.ex fun i6:Nat=>(.ex fun l2:List UInt8=>(.seq [.run 3,.hop (sn2) O,.run 1,.hopn (.ptr i1 i2 i3) O (N),.hop (.str l1) O,.run 2,.hopn (.ptr i4 i5 i6) O (N),.hop (.str l2) O,.run 3] (.fork 78 (.seq [.run 7,.keep [4,5]] .fin) (.seq [.run 2,.keep [0,1,6,7,8]] .fin))))))))))) (.seq [.run 16,.keep [0,1,6,7,8]] .fin)))) ((Wrea sn sa j j2 m rest O N G)):=by kernel_rfl
theorem zrh:(∃ (s1:AV) (s2:AV) (O1:T AObj) (N1:Nat) (i1:Nat) (i2:Nat) (i3:Nat) (l1:List UInt8) (O2:T AObj) (s3:AV) (O3:T AObj) (N2:Nat) (s4:AV) (s5:AV) (O4:T AObj) (N3:Nat) (O5:T AObj) (s6:AV) (s7:AV) (O6:T AObj) (N4:Nat) (i4:Nat) (i5:Nat) (i6:Nat) (s8:AV) (O7:T AObj) (s9:AV) (O8:T AObj) (N5:Nat) (s10:AV) (s11:AV) (O9:T AObj) (N6:Nat) (O10:T AObj),(lC O N G m 2 sn2)∧(xD P (⟨O,N,G⟩) (32) (sn2) (none) ((some j2)) (none)=(some s1))∧(zf P (⟨O,N,G⟩) (Builtin.append) ((some 32)) ((some 32)) ([.nils 0 0,s1])=(some (.val s2 ⟨O1,N1,G⟩)))∧(iX 32 sn j i1 i2 i3)∧(lR O1 N1 G i1 i2 i3 (.str l1))∧(zd P (⟨O1,N1,G⟩) (32) (1) ([(0,.str l1)])=(some (.slc N1 0 0 1 1,⟨O2,N1+1,G⟩)))∧(zf P (⟨O2,N1+1,G⟩) (Builtin.append) ((some 32)) ((some 32)) ([s2,.slc N1 0 0 1 1])=(some (.val s3 ⟨O3,N2,G⟩)))∧(lC O3 N2 G m 2 sn2)∧(xD P (⟨O3,N2,G⟩) (32) (sn2) ((some j2)) (none) (none)=(some s4))∧(zf P (⟨O3,N2,G⟩) (Builtin.append) ((some 32)) ((some 32)) ([s3,s4])=(some (.val s5 ⟨O4,N3,G⟩)))∧(s5.cells.length.beq (1)=true∧zc (⟨O4,N3,G⟩:AHeap) m (0) (2) s5.cells=some (⟨O5,N3,G⟩:AHeap))∧(lC O5 N3 G m 3 sa2)∧(xD P (⟨O5,N3,G⟩) (33) (sa2) (none) ((some j2)) (none)=(some s6))∧(zf P (⟨O5,N3,G⟩) (Builtin.append) ((some 33)) ((some 33)) ([.nils 0 0,s6])=(some (.val s7 ⟨O6,N4,G⟩)))∧(iX 33 sa j i4 i5 i6)∧(lR O6 N4 G i4 i5 i6 s8)∧(zd P (⟨O6,N4,G⟩) (33) (1) ([(0,s8)])=(some (.slc N4 0 0 1 1,⟨O7,N4+1,G⟩)))∧(zf P (⟨O7,N4+1,G⟩) (Builtin.append) ((some 33)) ((some 33)) ([s7,.slc N4 0 0 1 1])=(some (.val s9 ⟨O8,N5,G⟩)))∧(lC O8 N5 G m 3 sa2)∧(xD P (⟨O8,N5,G⟩) (33) (sa2) ((some j2)) (none) (none)=(some s10))∧(zf P (⟨O8,N5,G⟩) (Builtin.append) ((some 33)) ((some 33)) ([s9,s10])=(some (.val s11 ⟨O9,N6,G⟩)))∧(s11.cells.length.beq (1)=true∧zc (⟨O9,N6,G⟩:AHeap) m (0) (3) s11.cells=some (⟨O10,N6,G⟩:AHeap))∧K (Wrec sn sa (IntKind.i64.wrap (j+(1:Int))) m rest O10 N6 G))=OT f0 R keep K (.ex fun s1:AV=>(.ex fun s2:AV=>(.ex fun O1:T AObj=>(.ex fun N1:Nat=>(.ex fun i1:Nat=>(.ex fun i2:Nat=>(.ex fun i3:Nat=>(.ex fun l1:List UInt8=>(.ex fun O2:T AObj=>(.ex fun s3:AV=>(.ex fun O3:T AObj=>(.ex fun N2:Nat=>(.ex fun s4:AV=>(.ex fun s5:AV=>(.ex fun O4:T AObj=>(.ex fun N3:Nat=>(.ex fun O5:T AObj=>(.ex fun s6:AV=>(.ex fun s7:AV=>(.ex fun O6:T AObj=>(.ex fun N4:Nat=>(.ex fun i4:Nat=>(.ex fun i5:Nat=>(.ex fun i6:Nat=>(.ex fun s8:AV=>(.ex fun O7:T AObj=>(.ex fun s9:AV=>(.ex fun O8:T AObj=>(.ex fun N5:Nat=>(.ex fun s10:AV=>(.ex fun s11:AV=>(.ex fun O9:T AObj=>(.ex fun N6:Nat=>(.ex fun O10:T AObj=>(.seq [.run 10,.hop (sn2) O,.run 1,.hop (s1) O,.hopn (s2) O1 (N1),.run 7,.hopn (.ptr i1 i2 i3) O1 (N1),.hop (.str l1) O1,.hopn (.slc N1 0 0 1 1) O2 (N1+1),.hopn (s3) O3 (N2),.run 9,.hop (sn2) O3,.run 1,.hop (s4) O3,.hopn (s5) O4 (N3),.run 2,.hopn (.nilp) O5 (N3),.run 11,.hop (sa2) O5,.run 1,.hop (s6) O5,.hopn (s7) O6 (N4),.run 7,.hopn (.ptr i4 i5 i6) O6 (N4),.hop (s8) O6,.hopn (.slc N4 0 0 1 1) O7 (N4+1),.hopn (s9) O8 (N5),.run 8,.hop (sa2) O8,.run 1,.hop (s10) O8,.hopn (s11) O9 (N6),.run 2,.hopn (.nilp) O10 (N6),.run 8,.keep [0,1,6,7]] .fin))))))))))))))))))))))))))))))))))) ((Wreb sn sa j j2 m rest O N G)):=by kernel_rfl
end
variable {O O':T AObj} {N:Nat} {G:T (T AV)}
theorem litS (s:zi):∀ h:AHeap,zd P h 32 1 [(0,.str s)]=some (.slc h.next 0 0 1 1,xo h 9 (sE s) false):=fun h=>by kernel_rfl
theorem zqh (p:Option Nat):∀ h:AHeap,zd P h 33 1 [(0,pv p)]=some (.slc h.next 0 0 1 1,xo h 23 (pE p) false):=fun h=>by cases p <;> kernel_rfl
theorem zgg {ns:List zi}{ts:List Ty}{ps:List (Option Nat)}{sn sa:AV}{hi:Nat}{mk:Nat→Prop}(hn:SV O 1 sE 0 hi ns sn)(hs:SV O 1 pE 0 hi ps sa)(hl:ps.length=ts.length)(hm:ts.length<1000000)(ht:∀ (j:Nat) (x:Ty) (p:Option Nat),ts[j]?=some x→ps[j]?=some p→Tra O hi mk x p)(hN:hi≤N)(hmN:∀ j,mk j→j<N){keep:Nat}{f0:FuncId}{Q:AV→AHeap→Prop}{rest:List AFrame}
 (hK:∀ O' N' td p',Ext O N O' N'→Tra O' N' mk (zf6 ns ts).2 p'→Goal P keep f0 Q (AM.mk (RF 23 135 (tX (tX tZ (tY (.int .i64 (zf6 ns ts).1))) (tX (tY (pv p')) tZ)) td) rest ⟨O',N',G⟩)):Goal P keep f0 Q (AM.mk (enF 23 [sn,sa]) rest ⟨O,N,G⟩):=by
 have bad:zf6 ns ts=(2,.no)→∀ O' N' td,Ext O N O' N'→Goal P keep f0 Q (AM.mk (RF 23 135 (tX (tX tZ (tY (.int .i64 2))) (tX (tY .nilp) tZ)) td) rest ⟨O',N',G⟩):=fun e O' N' td ex=>by
  have:=hK O' N' td none ex (by rw [e]; exact Tra.nil)
  rw [e] at this
  exact this
 refine ot t_rec ⟨_,_,hn.len sSl _ _,hs.len pSl _ _,fun hc21=>?_,fun hc21=>?_⟩
 ·
  exact bad (by unfold zf6; rw [if_neg (fun h=>by have:=bne_iff_ne.1 hc21; omega)]) O N _ Ext.refl
 ·
  have hlen:ns.length=ts.length:=by
   have:=bne_eq_false_iff_eq.1 hc21
   omega
  refine zjI hs hl hm (fun j x p a b=>(ht j x p a b).tr) hN fun O1 N1 td1 ex1=>?_
  have nn1:=ex1.1
  refine ot zjS ⟨fun hc18=>?_,fun hc18=>?_⟩
  ·
   exact bad (by unfold zf6; rw [if_neg (fun h=>by rw [h.2] at hc18; cases hc18)]) O1 N1 _ ex1
  ·
   obtain ⟨OZ,e19,b19,f19⟩:=Obj.mk (c:=(tW (tW (tY (.nils 0 0)) (.str []) tZ) (.int .i64 7) (tW (tY .nilp) (.nils 0 0) tZ))) (el:=44) [(.int .i64 7),(.str []),(.nils 0 0),(.nils 0 0),.nilp] O1 N1 5 rfl (fun u hu=>by rcases u with _ | _ | _ | _ | _ | u <;> first | rfl | omega)
   refine ⟨OZ,e19,?_⟩
   have hok:ts.all (fun x=>chk x==0)=true:=by simpa using hc18
   have loop:∀ (k i:Nat) (M:Nat) (O2:T AObj) (N2:Nat) (xs:List zi) (us:List Ty) (qs:List (Option Nat)) (sn2 sa2:AV),i+k=ns.length→Ext O N O2 N2→N≤M→M<N2→Obj O2 M [.int .i64 7,.str [],sn2,sa2,.nilp]→SV O2 1 sE (M+1) N2 xs sn2→SV O2 1 pE (M+1) N2 qs sa2 →
    xs.length=us.length→qs.length=us.length→us.length≤i→(∀ x∈xs,zh x=true)→(∀ (j:Nat) (x:Ty) (p:Option Nat),us[j]?=some x→qs[j]?=some p→Tra O hi mk x p) →
    znE ns ts [] []=znE (ns.drop i) (ts.drop i) xs us→Goal P keep f0 Q (Wrec sn sa ((i:Nat):Int) M rest O2 N2 G):=by
    intro k
    induction k with
    | zero =>
     intro i M O2 N2 xs us qs sn2 sa2 hk ex hNM hMN ob vn va l1 l2 l3 hf hr hv
     have nn:=ex.1
     have hn2:=hn.keep (O':=O2) (fun j _ hj=>ex.2 j (by omega)) (Nat.le_refl 0) (Nat.le_refl hi)
     rw [List.drop_of_length_le (by omega),zhv] at hv
     have e7:zf6 ns ts=zmU (.mk 7 [] xs us .no):=by
      unfold zf6
      rw [if_pos ⟨hlen,hok⟩,hv]
     refine ot znT ⟨_,hn2.len sSl _ _,fkf (decide_eq_false (by omega)) ?_⟩
     have node:Tra O2 N2 mk (.mk 7 [] xs us .no) (some M):=Tra.node hMN (fun h=>by have:=hmN _ h; omega) ob (vn.keep (fun _ _ _=>rfl) (Nat.zero_le _) (Nat.le_refl _)) (fun h hA=>by have:=(vn.sid_lt h).1; have:=hmN _ hA; omega) (va.keep (fun _ _ _=>rfl) (Nat.zero_le _) (Nat.le_refl _)) (fun h hA=>by have:=(va.sid_lt h).1; have:=hmN _ hA; omega) l2 (by omega) (by omega) (fun j x p a b=>(hr j x p a b).same (fun i h1 _=>ex.2 i (by omega)) (by omega)) Tra.nil
     refine zlN (p:=some M) node.tr (fun h td=>?_) (fun h td=>?_)
     · have e3:zf6 ns ts=(3,.no):=by rw [e7]; unfold zmU; rw [if_pos h]
       have:=fun td=>hK O2 N2 td none ex (by rw [e3]; exact Tra.nil)
       rw [e3] at this
       exact ot zcu (this _)
     · have e3:zf6 ns ts=(0,.mk 7 [] xs us .no):=by rw [e7]; unfold zmU; rw [if_neg (by omega)]
       have:=fun td=>hK O2 N2 td (some M) ex (by rw [e3]; exact node)
       rw [e3] at this
       exact ot zcu (this _)
    | succ k ih0 =>
     intro i M O2 N2 xs us qs sn2 sa2 hk ex hNM hMN ob vn va l1 l2 l3 hf hr hv
     have ih:=fun i=>fun O2 N2 xs us qs sn2 sa2 h1 h2 h3=>ih0 i M O2 N2 xs us qs sn2 sa2 h1 h2 hNM h3
     have nn:=ex.1
     have hn2:=hn.keep (O':=O2) (fun j _ hj=>ex.2 j (by omega)) (Nat.le_refl 0) (Nat.le_refl hi)
     have hs2:=hs.keep (O':=O2) (fun j _ hj=>ex.2 j (by omega)) (Nat.le_refl 0) (Nat.le_refl hi)
     obtain ⟨x,hx,hxm⟩:=nth (l:=ns) (j:=i) (by omega)
     obtain ⟨t,hxt,hxtm⟩:=nth (l:=ts) (j:=i) (by omega)
     obtain ⟨y,hy,_⟩:=nth (l:=ps) (j:=i) (by omega)
     rw [zk hx,zk hxt] at hv
     rw [zen] at hv
     refine ot znT ⟨_,hn2.len sSl _ _,fkt (decide_eq_true (by omega)) ?_⟩
     obtain ⟨i1,i2,i3,lo15,hi15,eA15,rd15,_⟩:=hn2.at sSl sEn hx
     refine ⟨i1,i2,i3,_,eA15,rd15.load rfl _ _,?_⟩
     refine zor x fun td1=>?_
     refine ot ziN ⟨fun hc14=>?_,fun hc14=>?_⟩
     ·
      rw [if_neg (by simpa using hc14)] at hv
      exact bad (by unfold zf6; rw [if_pos ⟨hlen,hok⟩,hv]) O2 N2 _ ex
     ·
      have hfx:zh x=true:=by simpa using hc14
      have hx24:=yJ hfx
      rw [if_pos hfx] at hv
      have after:∀ a,zdN (fun z=>Op.bytesLess z x) xs=a→Goal P keep f0 Q (Wrea sn sa ((i:Nat):Int) ((a:Nat):Int) M rest O2 N2 G):=by
       intro a hua
       have hal:a≤xs.length:=hua▸zdT
       rw [hua] at hv
       have insd:xs[a]?≠some x→Goal P keep f0 Q (Wreb sn sa ((i:Nat):Int) ((a:Nat):Int) M rest O2 N2 G):=by
        intro hne
        rw [if_neg hne] at hv
        obtain ⟨r1,r2,r3,lor,hir,eR,rdR,_⟩:=hn2.at sSl sEn hx
        obtain ⟨p1,p2,p3,lop,hip,eP,rdP,_⟩:=hs2.at pSl pEn hy
        obtain ⟨s1,O3,N3,s2,O4,O5,N4,s3,s4,O6,N5,s5,a1,a2,a3,a4,a5,a6,g6,m1,m2,m3,f3,f5,f6⟩:=zbu sSl sEn vn (Nat.le_refl _) hal x (litS x) (by omega) G
        have ob5:=ob.same (f5 M hMN)
        have ob6:=ob.same (f6 M hMN)
        obtain ⟨O7,st7,ob7,fr7⟩:=ob6.store 2 [s5] N5 G (Nat.le_of_ble_eq_true rfl) (by simp only [List.all_cons,List.all_nil,Bool.and_true]; exact (g6.sv sEn).one)
        have va7:=va.keep (O':=O7) (lo':=M+1) (hi':=N5) (fun j h1 h2=>(fr7 j (by omega)).trans (f6 j h2)) (Nat.le_refl _) (by omega)
        obtain ⟨t1,O8,N6,t2,O9,OA,N7,t3,t4,OB,N8,t5,c1,c2,c3,c4,c5,c6,g9,m4,m5,m6,f8,fA,fB⟩:=zbu pSl pEn va7 (Nat.le_refl _) (a:=a) (by omega) y (zqh y) (by omega) G
        have obA:=ob7.same (fA M (by omega))
        have obB:=ob7.same (fB M (by omega))
        obtain ⟨OC,stC,obC,frC⟩:=obB.store 3 [t5] N8 G (Nat.le_of_ble_eq_true rfl) (by simp only [List.all_cons,List.all_nil,Bool.and_true]; exact (g9.sv pEn).one)
        have low7:∀ j,j<N2→j≠M→O7.get j=O2.get j:=fun j h1 h2=>(fr7 j h2).trans (f6 j h1)
        have lowC:∀ j,j<N2→j≠M→OC.get j=O2.get j:=fun j h1 h2=>(frC j h2).trans ((fB j (by omega)).trans (low7 j h1 h2))
        have exC:Ext O N OC N8:=⟨by omega,fun j hj=>(lowC j (by omega) (by omega)).trans (ex.2 j hj)⟩
        have nx:=ih (i+1) OC N8 (ins a x xs) (ins a t us) (ins a y qs) s5 t5 (by omega) exC (by omega) obC
         ((g6.sv sEn).same (fun h=>(frC _ (by have:=((g6.sv sEn).sid_lt h).1; omega)).trans ((fB _ ((g6.sv sEn).sid_lt h).2).trans (fr7 _ (by have:=((g6.sv sEn).sid_lt h).1; omega)))) (by omega) (by omega))
         ((g9.sv pEn).same (fun h=>frC _ (by have:=((g9.sv pEn).sid_lt h).1; omega)) (by omega) (Nat.le_refl _))
         (by rw [qa hal,qa (by omega)]; omega) (by rw [qa (by omega),qa (by omega)]; omega) (by rw [qa (by omega)]; omega)
         (fun z hz=>(zea.1 hz).elim (fun h=>h▸hfx) (hf z)) (zlj l2 (by omega) (ht i t y hxt hy) hr) hv
        rw [← zx (i:=i) (by omega)] at nx
        exact ot zrh ⟨_,_,_,_,_,_,_,_,_,_,_,_,_,_,_,_,_,_,_,_,_,_,_,_,_,_,_,_,_,_,_,_,_,_,ob.ld 2 rfl,a1,a2,eR,(rdR.same (f3 _ (by omega))).load rfl _ _,a3,a4,ob5.ld 2 rfl,a5,a6,(by rw [(g6.sv sEn).cells]; exact ⟨rfl,st7⟩),ob7.ld 3 rfl,c1,c2,eP,(rdP.same ((f8 _ (by omega)).trans (low7 _ (by omega) (by omega)))).load rfl _ _,c3,c4,obA.ld 3 rfl,c5,c6,(by rw [(g9.sv pEn).cells]; exact ⟨rfl,stC⟩),nx⟩
       have full:xs[a]?=some x→zf6 ns ts=(2,.no):=fun he=>by
        rw [if_pos he] at hv
        unfold zf6
        rw [if_pos ⟨hlen,hok⟩,hv]
       by_cases hla:a<xs.length
       · obtain ⟨z,hz,_⟩:=nth (l:=xs) (j:=a) hla
         refine ot (znk (sn2:=sn2)) ⟨_,ob.ld 2 rfl,vn.len sSl _ _,fkt (decide_eq_true (by omega)) ?_⟩
         obtain ⟨i1,i2,i3,lo4,hi4,eA4,rd4,_⟩:=vn.at sSl sEn hz
         obtain ⟨i4,i5,i6,lo5,hi5,eA5,rd5,_⟩:=hn2.at sSl sEn hx
         refine ⟨i1,i2,i3,_,i4,i5,i6,_,ob.ld 2 rfl,eA4,rd4.load rfl _ _,eA5,rd5.load rfl _ _,fun hc6=>?_,fun hc6=>?_⟩
         ·
          exact bad (full (by rw [hz,eq_of_beq hc6])) O2 N2 _ ex
         ·
          exact insd (by rw [hz]; intro h; injection h with h; rw [h] at hc6; simp at hc6)
       · skip
         refine ot (znk (sn2:=sn2)) ⟨_,ob.ld 2 rfl,vn.len sSl _ _,fkf (decide_eq_false (by omega)) ?_⟩
         exact insd (by rw [List.getElem?_eq_none (by omega)]; simp)
      have inner:∀ (k' a:Nat),a+k'=xs.length→(∀ k,k<a→∃ z,xs[k]?=some z∧Op.bytesLess z x=true)→Goal P keep f0 Q (Wrei sn sa ((i:Nat):Int) ((a:Nat):Int) M rest O2 N2 G):=by
       intro k'
       induction k' with
       | zero =>
        intro a hk' hbel
        have nx:=after a (zbd hbel (.inl (by omega)))
        refine ot (zm4 (sn2:=sn2)) ⟨_,ob.ld 2 rfl,vn.len sSl _ _,fkf (decide_eq_false (by omega)) ?_⟩
        exact nx
       | succ k' ih' =>
        intro a hk' hbel
        obtain ⟨z,hz,hzm⟩:=nth (l:=xs) (j:=a) (by omega)
        have hz24:=yJ (hf z hzm)
        refine ot (zm4 (sn2:=sn2)) ⟨_,ob.ld 2 rfl,vn.len sSl _ _,fkt (decide_eq_true (by omega)) ?_⟩
        obtain ⟨i1,i2,i3,lo10,hi10,eA10,rd10,_⟩:=vn.at sSl sEn hz
        obtain ⟨i4,i5,i6,lo11,hi11,eA11,rd11,_⟩:=hn2.at sSl sEn hx
        refine ⟨i1,i2,i3,_,i4,i5,i6,_,ob.ld 2 rfl,eA10,rd10.load rfl _ _,eA11,rd11.load rfl _ _,?_⟩
        refine zh6 z x (by omega) (by omega) fun td2=>?_
        refine ot ziO ⟨fun hc2=>?_,fun hc2=>?_⟩
        ·
         have nx:=ih' (a+1) (by omega) (fun k hk=>by
          by_cases hka:k=a
          · exact ⟨z,hka▸hz,hc2⟩
          · exact hbel k (by omega))
         rw [← zx (i:=a) (by omega)] at nx
         exact nx
        ·
         exact after a (zbd hbel (.inr ⟨z,hz,hc2⟩))
      exact inner xs.length 0 (Nat.zero_add _) (fun k h=>absurd h (Nat.not_lt_zero _))
   exact loop ns.length 0 _ _ _ [] [] [] _ _ (Nat.zero_add _) ⟨by omega,fun j hj=>(f19 j (by omega)).trans (ex1.2 j hj)⟩ nn1 (Nat.lt_succ_self _) b19 SV.nil SV.nil rfl rfl (Nat.le_refl _) (fun x h=>by cases h) (fun j x p h=>by simp at h) (by rw [List.drop_zero,List.drop_zero])
end Go.Proofs.Ytcdigdplhlgcaaa.gx
end
section
set_option maxRecDepth 100000
set_option linter.unusedVariables false
set_option linter.unusedSectionVars false
namespace Go.Proofs.Ytcdigdplhlgcaaa.gx
open Go Ev tp
variable {O O':T AObj} {N hi hi':Nat} {mk:Nat→Prop} {G:T (T AV)}
theorem jf {α:Type}{l:List α}{i:Nat}{x:α}(h:l[i]?=some x):l.take (i+1)=l.take i++[x]:=by
 obtain ⟨h1,h2⟩:=List.getElem?_eq_some_iff.1 h
 rw [List.take_add_one,h]
 rfl
theorem zc6 {α β:Type}{R:α→β→Prop}{l:List α}{m:List β}(hl:m.length=l.length)(h:∀ (j:Nat) x y,l[j]?=some x→m[j]?=some y→R x y){l':List α}{m':List β}(h':∀ (j:Nat) x y,l'[j]?=some x→m'[j]?=some y→R x y)(j:Nat)(x:α)(y:β)(a:(l++l')[j]?=some x)(b:(m++m')[j]?=some y):R x y:=by
 by_cases hj:j<l.length
 · rw [List.getElem?_append_left hj] at a
   rw [List.getElem?_append_left (by omega)] at b
   exact h j x y a b
 · rw [List.getElem?_append_right (by omega)] at a b
   rw [hl] at b
   exact h' _ x y a b
theorem zc2:∀ {l:List Ty},(∀ z∈l,1≤cnt z)→l.length≤wq l
 | [],_=>Nat.zero_le _
 | x::l,h=>by
  have:=zc2 (l:=l) fun z hz=>h z (List.mem_cons_of_mem _ hz)
  have:=h x List.mem_cons_self
  rw [kL,List.length_cons]
  omega
theorem SV.lenE {α:Type}{sz:Nat}{enc:α→List AV}{st el:TypeId}{by' lo hi:Nat}(S:SlT st el sz by'){xs:List α}{s:AV}(h:SV O sz enc lo hi xs s){n:Nat}(e:xs.length=n)(N:Nat)(G:T (T AV)):zI P ⟨O,N,G⟩ .len (some st) [s]=some (.int .i64 ((n:Nat):Int)):=e▸h.len S N G
theorem Tra.self {t:Ty}{p:Option Nat}(h:Tra O hi mk t p)(hh:hi≤hi'):Tra O hi' mk t p:=h.same (fun _ _ _=>rfl) hh
end Go.Proofs.Ytcdigdplhlgcaaa.gx
end
section
set_option maxRecDepth 100000
set_option linter.unusedVariables false
set_option linter.unusedSectionVars false
set_option linter.unusedSimpArgs false
namespace Go.Proofs.Ytcdigdplhlgcaaa.gx
open Go Ev tp
section
variable (sa:AV) (j j2:Int) (sl sl2:AV) (rest:List AFrame) (O:T AObj) (N:Nat) (G:T (T AV)) (i1 i2 i3 i4 i5 i6:Nat) (s1 s2:AV) (z1:Int) (lrq0 lrq1:List UInt8) (i1c i2c i3c i4c i5c i6c:Nat) (s1c s2c:AV) (z1c:Int)
noncomputable def zqY:AFrame:=⟨26,129,(tW (tX tZ (tX tZ (tY (.bool false)))) sa (tX tZ (tX tZ (tY sa)))),   [.ops (rg P 26 [1,0,0]).toList ((rg P 26 [1,0,0]).toList.drop 5),.code (cd P 26 [1,0,1]),.code (cd P 26 [1,1])],[],.run,CallKind.normal,none⟩
noncomputable def zpU:AM:=⟨⟨26,129,(tW (tX tZ (tY (.int .i64 j))) sa (tX (tY sl) tZ)),   [.code (cd P 26 [1,1,1,0,1,0,0]),.inLoop (cd P 26 [1,1,1,0,1,0,0]),.inBlock 0,.code (cd P 26 [1,1,1,1])],[],.run,CallKind.normal,none⟩,rest,⟨O,N,G⟩⟩
noncomputable def zpL:AM:=⟨⟨26,129,(tX (tX (tX (tY (.int .i64 j)) tZ) tZ) (tX (tY sl) (tY sl2))),   [.code (cd P 26 [1,1,1,1,1,0,1,0,0]),.inLoop (cd P 26 [1,1,1,1,1,0,1,0,0]),.inBlock 2,.code (cd P 26 [1,1,1,1,1,1])],[],.run,CallKind.normal,none⟩,rest,⟨O,N,G⟩⟩
noncomputable def Wunc:AM:=⟨⟨26,129,(tX (tX (tX (tY (.int .i64 j)) tZ) tZ) (tX (tW (tY (.int .i64 j2)) sl tZ) (tY sl2))),   [.code (cd P 26 [1,1,1,1,1,0,1,0,0,1,0,0,1,0,0,0]),.inLoop (cd P 26 [1,1,1,1,1,0,1,0,0,1,0,0,1,0,0,0]),.inBlock 4,.code (cd P 26 [1,1,1,1,1,0,1,0,0,1,0,0,1,1]),.inBlock 3,.code (cd P 26 [1,1,1,1,1,0,1,0,0,1,1]),.inLoop (cd P (26:FuncId) [1,1,1,1,1,0,1,0,0]),.inBlock 2,.code (cd P (26:FuncId) [1,1,1,1,1,1])],[],.run,CallKind.normal,none⟩,rest,⟨O,N,G⟩⟩
noncomputable def Wund:AM:=⟨⟨26,129,(tX tZ (tX tZ (tY sl2))),   [.code (cd P (26:FuncId) [1,1,1,1,1,1])],[],.run,CallKind.normal,none⟩,rest,⟨O,N,G⟩⟩
noncomputable def zny:AFrame:=⟨26,129,(tX (tX (tX (tW tZ (.int .i64 j) (tX (tX (tY (.ptr i1 i2 i3)) tZ) tZ)) (tX (tX (tX (tY (.bool (decide (j2<z1)))) tZ) tZ) (tX (tX (tY (.int .i64 j)) tZ) tZ))) (tX (tX (tX (tX (tY sl2) tZ) tZ) tZ) (tX (tX (tX (tY sl2) tZ) tZ) (tX (tX (tY s2) tZ) tZ)))) (tX (tW (tW (tX (tX (tY (.int .i64 j2)) tZ) tZ) (.int .i64 j2) (tX (tX (tY s1) tZ) tZ)) sl (tX (tX (tX (tY (.bool true)) tZ) tZ) (tX (tX (tY (.ptr i4 i5 i6)) tZ) tZ))) (tW (tX (tX (tX (tY (.int .i64 z1)) tZ) tZ) (tX (tX (tY sl) tZ) tZ)) sl2 (tX (tX (tX (tY (.int .i64 j2)) tZ) tZ) tZ)))),   [.drw (rg P 26 [1,1,1,1,1,0,1,0,0,1,0,0,1,0,0,0,0,0]) [9,14,15,16] [13,12,11,10,8,7,6,5,4,3,2,1,0],.code (cd P 26 [1,1,1,1,1,0,1,0,0,1,0,0,1,0,0,0,0,1]),.code (cd P 26 [1,1,1,1,1,0,1,0,0,1,0,0,1,0,0,0,1]),.inLoop (cd P (26:FuncId) [1,1,1,1,1,0,1,0,0,1,0,0,1,0,0,0]),.inBlock 4,.code (cd P (26:FuncId) [1,1,1,1,1,0,1,0,0,1,0,0,1,1]),.inBlock 3,.code (cd P (26:FuncId) [1,1,1,1,1,0,1,0,0,1,1]),.inLoop (cd P (26:FuncId) [1,1,1,1,1,0,1,0,0]),.inBlock 2,.code (cd P (26:FuncId) [1,1,1,1,1,1])],[],.run,CallKind.normal,none⟩
noncomputable def Wune:AM:=⟨⟨26,129,(tX (tX (tX (tY (.int .i64 j)) tZ) tZ) (tX (tW (tY (.int .i64 j2)) sl tZ) (tY sl2))),   [.code (cd P (26:FuncId) [1,1,1,1,1,0,1,0,0,1,0,0,1,1]),.inBlock 3,.code (cd P (26:FuncId) [1,1,1,1,1,0,1,0,0,1,1]),.inLoop (cd P (26:FuncId) [1,1,1,1,1,0,1,0,0]),.inBlock 2,.code (cd P (26:FuncId) [1,1,1,1,1,1])],[],.run,CallKind.normal,none⟩,rest,⟨O,N,G⟩⟩
noncomputable def zey:AFrame:=⟨26,129,(tX (tX (tX (tW tZ (.int .i64 j) (tX (tX (tY (.ptr i1c i2c i3c)) tZ) tZ)) (tX (tX (tX (tY (.bool (decide (j2<z1c)))) tZ) tZ) (tX (tX (tY (.int .i64 j)) tZ) tZ))) (tX (tX (tX (tX (tY sl2) tZ) tZ) (tX (tX (tY (.str lrq0)) tZ) tZ)) (tX (tX (tX (tY sl2) tZ) tZ) (tX (tX (tY s2c) tZ) tZ)))) (tX (tW (tW (tX (tX (tY (.int .i64 j2)) tZ) tZ) (.int .i64 j2) (tX (tX (tY s1c) tZ) tZ)) sl (tX (tX (tX (tY (.bool true)) tZ) tZ) (tX (tX (tY (.ptr i4c i5c i6c)) tZ) tZ))) (tW (tX (tX (tX (tY (.int .i64 z1c)) tZ) tZ) (tX (tX (tY sl) tZ) tZ)) sl2 (tX (tX (tX (tY (.int .i64 j2)) tZ) tZ) tZ)))),   [.drw (rg P (26:FuncId) [1,1,1,1,1,0,1,0,0,1,0,0,1,0,0,0,0,0]) [14,15,16] [9,13,12,11,10,8,7,6,5,4,3,2,1,0],.code (cd P (26:FuncId) [1,1,1,1,1,0,1,0,0,1,0,0,1,0,0,0,0,1]),.code (cd P (26:FuncId) [1,1,1,1,1,0,1,0,0,1,0,0,1,0,0,0,1]),.inLoop (cd P (26:FuncId) [1,1,1,1,1,0,1,0,0,1,0,0,1,0,0,0]),.inBlock 4,.code (cd P (26:FuncId) [1,1,1,1,1,0,1,0,0,1,0,0,1,1]),.inBlock 3,.code (cd P (26:FuncId) [1,1,1,1,1,0,1,0,0,1,1]),.inLoop (cd P (26:FuncId) [1,1,1,1,1,0,1,0,0]),.inBlock 2,.code (cd P (26:FuncId) [1,1,1,1,1,1])],[],.run,CallKind.normal,none⟩
noncomputable def jS:AFrame:=⟨26,129,(tX (tX (tX (tW tZ (.int .i64 j) (tX (tX (tY (.ptr i1c i2c i3c)) tZ) tZ)) (tX (tX (tX (tY (.bool (decide (j2<z1c)))) tZ) tZ) (tX (tX (tY (.int .i64 j)) tZ) tZ))) (tX (tX (tX (tX (tY sl2) tZ) tZ) (tX (tX (tY (.str lrq0)) tZ) tZ)) (tX (tX (tX (tY sl2) tZ) tZ) (tX (tX (tY s2c) tZ) tZ)))) (tX (tW (tW (tX (tX (tY (.int .i64 j2)) tZ) tZ) (.int .i64 j2) (tX (tX (tY s1c) tZ) tZ)) sl (tX (tX (tX (tY (.bool true)) tZ) tZ) (tX (tX (tY (.ptr i4c i5c i6c)) tZ) tZ))) (tW (tX (tX (tX (tY (.int .i64 z1c)) tZ) tZ) (tX (tX (tY sl) tZ) tZ)) sl2 (tX (tX (tX (tY (.int .i64 j2)) tZ) tZ) (tX (tX (tY (.str lrq1)) tZ) tZ))))),   [.drw (rg P (26:FuncId) [1,1,1,1,1,0,1,0,0,1,0,0,1,0,0,0,0,0]) [15,16] [14,9,13,12,11,10,8,7,6,5,4,3,2,1,0],.code (cd P (26:FuncId) [1,1,1,1,1,0,1,0,0,1,0,0,1,0,0,0,0,1]),.code (cd P (26:FuncId) [1,1,1,1,1,0,1,0,0,1,0,0,1,0,0,0,1]),.inLoop (cd P (26:FuncId) [1,1,1,1,1,0,1,0,0,1,0,0,1,0,0,0]),.inBlock 4,.code (cd P (26:FuncId) [1,1,1,1,1,0,1,0,0,1,0,0,1,1]),.inBlock 3,.code (cd P (26:FuncId) [1,1,1,1,1,0,1,0,0,1,1]),.inLoop (cd P (26:FuncId) [1,1,1,1,1,0,1,0,0]),.inBlock 2,.code (cd P (26:FuncId) [1,1,1,1,1,1])],[],.run,CallKind.normal,none⟩
noncomputable def zn4:AFrame:=⟨26,129,(tX (tX (tX (tW (tX (tX tZ (tY (.ptr i4 i5 i6))) tZ) (.int .i64 j) (tX tZ (tX (tY (.bool true)) tZ))) (tX (tX tZ (tX (tY (.int .i64 j2)) tZ)) (tX tZ (tX (tY s1) tZ)))) (tX (tX tZ (tX tZ (tX (tY (.int .i64 j2)) tZ))) (tX (tX tZ (tX (tY (.int .i64 z1)) tZ)) (tX tZ (tX (tY sl) tZ))))) (tX (tW (tW (tX (tX tZ (tY s2)) tZ) (.int .i64 j2) (tX tZ (tX (tY sl2) tZ))) sl (tX (tX tZ (tX (tY sl2) tZ)) tZ)) (tW (tX tZ (tX tZ (tX (tY (.ptr i1 i2 i3)) tZ))) sl2 (tX (tX tZ (tX (tY (.bool (decide (j2<z1)))) tZ)) (tX tZ (tX (tY (.int .i64 j)) tZ)))))),   [.drw (rg P 26 [1,1,1,1,1,0,1,0,0,1,0,0,1,1,0,0]) [9,14,15,16] [13,12,11,10,8,7,6,5,4,3,2,1,0],.code (cd P 26 [1,1,1,1,1,0,1,0,0,1,0,0,1,1,0,1]),.code (cd P 26 [1,1,1,1,1,0,1,0,0,1,0,0,1,1,1]),.inBlock 3,.code (cd P (26:FuncId) [1,1,1,1,1,0,1,0,0,1,1]),.inLoop (cd P (26:FuncId) [1,1,1,1,1,0,1,0,0]),.inBlock 2,.code (cd P (26:FuncId) [1,1,1,1,1,1])],[],.run,CallKind.normal,none⟩
noncomputable def Wunf:AM:=⟨⟨26,129,(tX (tX (tX (tY (.int .i64 j)) tZ) tZ) (tX (tW (tY (.int .i64 j2)) sl tZ) (tY sl2))),   [.code (cd P 26 [1,1,1,1,1,0,1,0,0,1,0,0,1,1,1]),.inBlock 3,.code (cd P (26:FuncId) [1,1,1,1,1,0,1,0,0,1,1]),.inLoop (cd P (26:FuncId) [1,1,1,1,1,0,1,0,0]),.inBlock 2,.code (cd P (26:FuncId) [1,1,1,1,1,1])],[],.run,CallKind.normal,none⟩,rest,⟨O,N,G⟩⟩
noncomputable def zfD:AFrame:=⟨26,129,(tX (tX (tX (tW (tX (tX tZ (tY (.ptr i4c i5c i6c))) tZ) (.int .i64 j) (tX tZ (tX (tY (.bool true)) tZ))) (tX (tX tZ (tX (tY (.int .i64 j2)) tZ)) (tX tZ (tX (tY s1c) tZ)))) (tX (tX tZ (tX tZ (tX (tY (.int .i64 j2)) tZ))) (tX (tX tZ (tX (tY (.int .i64 z1c)) tZ)) (tX tZ (tX (tY sl) tZ))))) (tX (tW (tW (tX (tX tZ (tY s2c)) tZ) (.int .i64 j2) (tX tZ (tX (tY sl2) tZ))) sl (tX (tX tZ (tX (tY sl2) tZ)) (tX tZ (tX (tY (.str lrq0)) tZ)))) (tW (tX tZ (tX tZ (tX (tY (.ptr i1c i2c i3c)) tZ))) sl2 (tX (tX tZ (tX (tY (.bool (decide (j2<z1c)))) tZ)) (tX tZ (tX (tY (.int .i64 j)) tZ)))))),   [.drw (rg P (26:FuncId) [1,1,1,1,1,0,1,0,0,1,0,0,1,1,0,0]) [14,15,16] [9,13,12,11,10,8,7,6,5,4,3,2,1,0],.code (cd P (26:FuncId) [1,1,1,1,1,0,1,0,0,1,0,0,1,1,0,1]),.code (cd P (26:FuncId) [1,1,1,1,1,0,1,0,0,1,0,0,1,1,1]),.inBlock 3,.code (cd P (26:FuncId) [1,1,1,1,1,0,1,0,0,1,1]),.inLoop (cd P (26:FuncId) [1,1,1,1,1,0,1,0,0]),.inBlock 2,.code (cd P (26:FuncId) [1,1,1,1,1,1])],[],.run,CallKind.normal,none⟩
noncomputable def zoh:AFrame:=⟨26,129,(tX (tX tZ (tX tZ (tX tZ (tX tZ (tX tZ (tY (.ptr N 0 0))))))) tZ),   [.ops (rg P 26 [1,1,1,1,1,1,1,0]).toList ((rg P 26 [1,1,1,1,1,1,1,0]).toList.drop 3),.code (cd P 26 [1,0,1,0,1])],[],.run,CallKind.normal,none⟩
end
section
variable {R:AV→AHeap→Prop} {keep N q i1c i2c i3c i4c i5c i6c Nc:Nat} {f0:FuncId} {rest:List AFrame} {O:T AObj} {sa sl sa2 sl2 s1c s2c prq0:AV} {G:T (T AV)} {K:AM→Prop} {td:List AItem} {blq0 blq2:Bool} {j k2 j2 z1c crq0:Int} {lrq0 lrq1:List UInt8}
theorem t_uni:(∃ (z1:Int),(lN O N G 33 sa z1)∧(((z1==(0:Int)))=true→(K (AM.mk (RF 26 129 (tX (tX (tY (.int .i64 2)) tZ) (tY .nilp)) [.code (cd P 26 [1,0,1,0,1]),.code (cd P 26 [1,1])]) rest ⟨O,N,G⟩)))∧(((z1==(0:Int)))=false→(K (AM.mk (enF 62 [sa]) ((zqY sa)::rest) ⟨O,N,G⟩))))=OT f0 R keep K (.ex fun z1:Int=>(.seq [.run 9,.hopn (.int .i64 z1) O (N),.run 2] (.fork 13 (.seq [.run 12,.keep [2,3]] .fin) (.seq [.run 1,.keep [0,13,14],.run 1] .fin)))) ((AM.mk (enF 26 [sa]) rest ⟨O,N,G⟩)):=by kernel_rfl
theorem zlq:((((!blq0))=true→(K (AM.mk (RF 26 129 (tX (tX (tY (.int .i64 2)) tZ) (tY .nilp)) [.code (cd P 62 [1,0,1,0,0,1,0,0,1,0,1]),.code (cd P (26:FuncId) [1,1])]) rest ⟨O,N,G⟩)))∧(((!blq0))=false→(K (zpU sa 0 (.nils 0 0) rest O N G))))=OT f0 R keep K (.seq [.run 4] (.fork 17 (.seq [.run 7,.keep [2,3]] .fin) (.seq [.run 13,.keep [0,4,5]] .fin))) ((AM.mk (RF 62 16 (tX tZ (tY (.bool blq0))) td) ((zqY sa)::rest) ⟨O,N,G⟩)):=by kernel_rfl
theorem zna:(∃ (z1:Int),(lN O N G 33 sa z1)∧((decide (j<z1))=true→(∃ (i1:Nat) (i2:Nat) (i3:Nat),(iX 33 sa j i1 i2 i3)∧(lR O N G i1 i2 i3 (.ptr q 0 0))∧(lC O N G q 0 (.int .i64 k2))∧(((k2==(1:Int)))=true→(∃ (O1:T AObj),(T.set ((some (.cells (tW (tW (tY (.nils 0 0)) (.str []) tZ) (.int .i64 1) (tW (tY .nilp) (.nils 0 0) tZ)) 5 44 0 0 1 0 false .leaf))) (O) (N)=O1)∧K (AM.mk (RF 26 129 (tX (tX (tY (.int .i64 0)) tZ) (tY (.ptr N 0 0))) [.code (cd P 26 [1,0,1,0,1]),.code (cd P 26 [1,1,1,0,1,0,0,1,0,0,1]),.inBlock 1,.code (cd P 26 [1,1,1,0,1,0,0,1,1]),.inLoop (cd P (26:FuncId) [1,1,1,0,1,0,0]),.inBlock 0,.code (cd P (26:FuncId) [1,1,1,1])]) rest ⟨O1,N+1,G⟩)))∧(((k2==(1:Int)))=false→(∃ (i4:Nat) (i5:Nat) (i6:Nat),(iX 33 sa j i4 i5 i6)∧(lR O N G i4 i5 i6 (.ptr q 0 0))∧(lC O N G q 0 (.int .i64 k2))∧(((k2==(9:Int)))=true→(∃ (i7:Nat) (i8:Nat) (i9:Nat) (s1:AV) (O1:T AObj) (N1:Nat),(iX 33 sa j i7 i8 i9)∧(lR O N G i7 i8 i9 (.ptr q 0 0))∧(lC O N G q 3 sa2)∧(zf P (⟨O,N,G⟩) (Builtin.append) ((some 33)) ((some 33)) ([sl,sa2])=(some (.val s1 ⟨O1,N1,G⟩)))∧K (zpU sa (IntKind.i64.wrap (j+(1:Int))) s1 rest O1 N1 G)))∧(((k2==(9:Int)))=false→(∃ (i7:Nat) (i8:Nat) (i9:Nat) (O1:T AObj) (s1:AV) (O2:T AObj) (N1:Nat),(iX 33 sa j i7 i8 i9)∧(lR O N G i7 i8 i9 (.ptr q 0 0))∧(zd P (⟨O,N,G⟩) (33) (1) ([(0,.ptr q 0 0)])=(some (.slc N 0 0 1 1,⟨O1,N+1,G⟩)))∧(zf P (⟨O1,N+1,G⟩) (Builtin.append) ((some 33)) ((some 33)) ([sl,.slc N 0 0 1 1])=(some (.val s1 ⟨O2,N1,G⟩)))∧K (zpU sa (IntKind.i64.wrap (j+(1:Int))) s1 rest O2 N1 G)))))))∧((decide (j<z1))=false→(K (zpL 0 sl (.nils 0 0) rest O N G))))=OT f0 R keep K (.ex fun z1:Int=>(.seq [.run 5,.hopn (.int .i64 z1) O (N),.run 2] (.fork 21 (.ex fun i1:Nat=>(.ex fun i2:Nat=>(.ex fun i3:Nat=>(.seq [.run 9,.hopn (.ptr i1 i2 i3) O (N),.hop (.ptr q 0 0) O,.run 2,.hop (.int .i64 k2) O,.run 2] (.fork 31 (.ex fun O1:T AObj=>(.seq [.run 4,.hop (.nilp) O1,.run 4,.keep [2,3]] .fin)) (.ex fun i4:Nat=>(.ex fun i5:Nat=>(.ex fun i6:Nat=>(.seq [.run 6,.hopn (.ptr i4 i5 i6) O (N),.hop (.ptr q 0 0) O,.run 2,.hop (.int .i64 k2) O,.run 2] (.fork 41 (.ex fun i7:Nat=>(.ex fun i8:Nat=>(.ex fun i9:Nat=>(.ex fun s1:AV=>(.ex fun O1:T AObj=>(.ex fun N1:Nat=>(.seq [.run 5,.hopn (.ptr i7 i8 i9) O (N),.hop (.ptr q 0 0) O,.run 2,.hop (sa2) O,.hopn (s1) O1 (N1),.run 9,.keep [0,4,5]] .fin))))))) (.ex fun i7:Nat=>(.ex fun i8:Nat=>(.ex fun i9:Nat=>(.ex fun O1:T AObj=>(.ex fun s1:AV=>(.ex fun O2:T AObj=>(.ex fun N1:Nat=>(.seq [.run 5,.hopn (.ptr i7 i8 i9) O (N),.hop (.ptr q 0 0) O,.hopn (.slc N 0 0 1 1) O1 (N+1),.hopn (s1) O2 (N1),.run 9,.keep [0,4,5]] .fin)))))))))))))))))) (.seq [.run 13,.keep [4,6,7]] .fin)))) ((zpU sa j sl rest O N G)):=by kernel_rfl
theorem znN:(∃ (z1:Int),(lN O N G 33 sl z1)∧((decide (j<z1))=true→(K (Wunc j 0 sl sl2 rest O N G)))∧((decide (j<z1))=false→(K (Wund sl2 rest O N G))))=OT f0 R keep K (.ex fun z1:Int=>(.seq [.run 5,.hopn (.int .i64 z1) O (N),.run 2] (.fork 61 (.seq [.run 11,.keep [4,6,7,8]] .fin) (.seq [.run 2,.keep [6]] .fin)))) ((zpL j sl sl2 rest O N G)):=by kernel_rfl
theorem znb:(∃ (z1:Int),(lN O N G 33 sl2 z1)∧((decide (j2<z1))=true→(∃ (i1:Nat) (i2:Nat) (i3:Nat) (s1:AV) (i4:Nat) (i5:Nat) (i6:Nat) (s2:AV),(iX 33 sl2 j2 i1 i2 i3)∧(lR O N G i1 i2 i3 s1)∧(iX 33 sl j i4 i5 i6)∧(lR O N G i4 i5 i6 s2)∧K (AM.mk (enF 48 [s1]) ((zny j j2 sl sl2 i1 i2 i3 i4 i5 i6 s1 s2 z1)::rest) ⟨O,N,G⟩)))∧((decide (j2<z1))=false→(K (Wune j j2 sl sl2 rest O N G))))=OT f0 R keep K (.ex fun z1:Int=>(.seq [.run 5,.hopn (.int .i64 z1) O (N),.run 2] (.fork 68 (.ex fun i1:Nat=>(.ex fun i2:Nat=>(.ex fun i3:Nat=>(.ex fun s1:AV=>(.ex fun i4:Nat=>(.ex fun i5:Nat=>(.ex fun i6:Nat=>(.ex fun s2:AV=>(.seq [.run 2,.hopn (.ptr i1 i2 i3) O (N),.hop (s1) O,.run 2,.hopn (.ptr i4 i5 i6) O (N),.hop (s2) O,.run 1] .fin))))))))) (.seq [.run 15,.keep [4,6,7,8]] .fin)))) ((Wunc j j2 sl sl2 rest O N G)):=by kernel_rfl
theorem zjb:((True)∧(lR O N G i4c i5c i6c s2c)∧(okD 300 s2c=true)∧K (AM.mk (enF 48 [s2c]) ((zey j j2 sl sl2 lrq0 i1c i2c i3c i4c i5c i6c s1c s2c z1c)::rest) ⟨O,N,G⟩))=OT f0 R keep K (.seq [.hret [.nilp],.run 1] .fin) ((AM.mk (RF 48 146 (tX tZ (tY (.str lrq0))) td) ((zny j j2 sl sl2 i1c i2c i3c i4c i5c i6c s1c s2c z1c)::rest) ⟨O,N,G⟩)):=by kernel_rfl
theorem zd5:(K (AM.mk (enF 64 [.str lrq0,.str lrq1]) ((jS j j2 sl sl2 lrq0 lrq1 i1c i2c i3c i4c i5c i6c s1c s2c z1c)::rest) ⟨O,N,G⟩))=OT f0 R keep K (.seq [.run 2] .fin) ((AM.mk (RF 48 146 (tX tZ (tY (.str lrq1))) td) ((zey j j2 sl sl2 lrq0 i1c i2c i3c i4c i5c i6c s1c s2c z1c)::rest) ⟨O,N,G⟩)):=by kernel_rfl
theorem zav:(((blq2)=true→(K (Wunc j (IntKind.i64.wrap (j2+(1:Int))) sl sl2 rest O N G)))∧((blq2)=false→(K (Wune j j2 sl sl2 rest O N G))))=OT f0 R keep K (.seq [.run 3] (.fork 80 (.seq [.run 10,.keep [4,6,7,8]] .fin) (.seq [.run 2,.keep [4,6,7,8]] .fin))) ((AM.mk (RF 64 37 (tX tZ (tX (tY (.bool blq2)) tZ)) td) ((jS j j2 sl sl2 lrq0 lrq1 i1c i2c i3c i4c i5c i6c s1c s2c z1c)::rest) ⟨O,N,G⟩)):=by kernel_rfl
theorem znG:(∃ (z1:Int),(lN O N G 33 sl2 z1)∧((decide (j2<z1))=true→(∃ (i1:Nat) (i2:Nat) (i3:Nat) (s1:AV) (i4:Nat) (i5:Nat) (i6:Nat) (s2:AV),(iX 33 sl2 j2 i1 i2 i3)∧(lR O N G i1 i2 i3 s1)∧(iX 33 sl j i4 i5 i6)∧(lR O N G i4 i5 i6 s2)∧K (AM.mk (enF 48 [s1]) ((zn4 j j2 sl sl2 i1 i2 i3 i4 i5 i6 s1 s2 z1)::rest) ⟨O,N,G⟩)))∧((decide (j2<z1))=false→(K (Wunf j j2 sl sl2 rest O N G))))=OT f0 R keep K (.ex fun z1:Int=>(.seq [.run 5,.hopn (.int .i64 z1) O (N),.run 2] (.fork 87 (.ex fun i1:Nat=>(.ex fun i2:Nat=>(.ex fun i3:Nat=>(.ex fun s1:AV=>(.ex fun i4:Nat=>(.ex fun i5:Nat=>(.ex fun i6:Nat=>(.ex fun s2:AV=>(.seq [.run 2,.hopn (.ptr i1 i2 i3) O (N),.hop (s1) O,.run 2,.hopn (.ptr i4 i5 i6) O (N),.hop (s2) O,.run 1] .fin))))))))) (.seq [.run 15,.keep [4,6,7,8]] .fin)))) ((Wune j j2 sl sl2 rest O N G)):=by kernel_rfl
theorem zjh:((True)∧(lR O N G i4c i5c i6c s2c)∧(okD 300 s2c=true)∧K (AM.mk (enF 48 [s2c]) ((zfD j j2 sl sl2 lrq0 i1c i2c i3c i4c i5c i6c s1c s2c z1c)::rest) ⟨O,N,G⟩))=OT f0 R keep K (.seq [.hret [.nilp],.run 1] .fin) ((AM.mk (RF 48 146 (tX tZ (tY (.str lrq0))) td) ((zn4 j j2 sl sl2 i1c i2c i3c i4c i5c i6c s1c s2c z1c)::rest) ⟨O,N,G⟩)):=by kernel_rfl
theorem zc9:((((lrq0==lrq1))=true→(K (zpL (IntKind.i64.wrap (j+(1:Int))) sl sl2 rest O N G)))∧(((lrq0==lrq1))=false→(K (Wunf j j2 sl sl2 rest O N G))))=OT f0 R keep K (.seq [.run 4] (.fork 99 (.seq [.run 8,.keep [4,6,7]] .fin) (.seq [.run 2,.keep [4,6,7,8]] .fin))) ((AM.mk (RF 48 146 (tX tZ (tY (.str lrq1))) td) ((zfD j j2 sl sl2 lrq0 i1c i2c i3c i4c i5c i6c s1c s2c z1c)::rest) ⟨O,N,G⟩)):=by kernel_rfl
theorem zqd:(∃ (s1:AV) (s2:AV) (O1:T AObj) (N1:Nat) (i1:Nat) (i2:Nat) (i3:Nat) (s3:AV) (O2:T AObj) (s4:AV) (O3:T AObj) (N2:Nat) (s5:AV) (s6:AV) (O4:T AObj) (N3:Nat),(xD P (⟨O,N,G⟩) (33) (sl2) (none) ((some j2)) (none)=(some s1))∧(zf P (⟨O,N,G⟩) (Builtin.append) ((some 33)) ((some 33)) ([.nils 0 0,s1])=(some (.val s2 ⟨O1,N1,G⟩)))∧(iX 33 sl j i1 i2 i3)∧(lR O1 N1 G i1 i2 i3 s3)∧(zd P (⟨O1,N1,G⟩) (33) (1) ([(0,s3)])=(some (.slc N1 0 0 1 1,⟨O2,N1+1,G⟩)))∧(zf P (⟨O2,N1+1,G⟩) (Builtin.append) ((some 33)) ((some 33)) ([s2,.slc N1 0 0 1 1])=(some (.val s4 ⟨O3,N2,G⟩)))∧(xD P (⟨O3,N2,G⟩) (33) (sl2) ((some j2)) (none) (none)=(some s5))∧(zf P (⟨O3,N2,G⟩) (Builtin.append) ((some 33)) ((some 33)) ([s4,s5])=(some (.val s6 ⟨O4,N3,G⟩)))∧K (zpL (IntKind.i64.wrap (j+(1:Int))) sl s6 rest O4 N3 G))=OT f0 R keep K (.ex fun s1:AV=>(.ex fun s2:AV=>(.ex fun O1:T AObj=>(.ex fun N1:Nat=>(.ex fun i1:Nat=>(.ex fun i2:Nat=>(.ex fun i3:Nat=>(.ex fun s3:AV=>(.ex fun O2:T AObj=>(.ex fun s4:AV=>(.ex fun O3:T AObj=>(.ex fun N2:Nat=>(.ex fun s5:AV=>(.ex fun s6:AV=>(.ex fun O4:T AObj=>(.ex fun N3:Nat=>(.seq [.run 9,.hop (s1) O,.hopn (s2) O1 (N1),.run 7,.hopn (.ptr i1 i2 i3) O1 (N1),.hop (s3) O1,.hopn (.slc N1 0 0 1 1) O2 (N1+1),.hopn (s4) O3 (N2),.run 6,.hop (s5) O3,.hopn (s6) O4 (N3),.run 9,.keep [4,6,7]] .fin))))))))))))))))) ((Wunf j j2 sl sl2 rest O N G)):=by kernel_rfl
theorem zn1:(∃ (z1:Int),(lN O N G 33 sl2 z1)∧(((z1==(1:Int)))=true→(∃ (i1:Nat) (i2:Nat) (i3:Nat) (s1:AV),(iX 33 sl2 0 i1 i2 i3)∧(lR O N G i1 i2 i3 s1)∧K (AM.mk (RF 26 129 (tX (tX (tY (.int .i64 0)) tZ) (tY s1)) [.code (cd P 26 [1,0,1,0,1]),.code (cd P 26 [1,1,1,1,1,1,1])]) rest ⟨O,N,G⟩)))∧(((z1==(1:Int)))=false→(∃ (O1:T AObj),(vp P (44) ([(0,.int .i64 9),(3,sl2)])=(some (.agg [.int .i64 9,.str [],.nils 0 0,sl2,.nilp])))∧((Nat.beq (5) (AV.agg [AV.int IntKind.i64 (Int.ofNat (9)),AV.str [],AV.nils (0) (0),sl2,AV.nilp]).cells.length&&(AV.agg [AV.int IntKind.i64 (Int.ofNat (9)),AV.str [],AV.nils (0) (0),sl2,AV.nilp]).cells.all AV.one)=true∧T.set (some (AObj.cells (ze T.leaf 0 (AV.agg [AV.int IntKind.i64 (Int.ofNat (9)),AV.str [],AV.nils (0) (0),sl2,AV.nilp]).cells) (AV.agg [AV.int IntKind.i64 (Int.ofNat (9)),AV.str [],AV.nils (0) (0),sl2,AV.nilp]).cells.length 44 0 0 1 0 false T.leaf)) (⟨O,N,G⟩:AHeap).objs N=O1)∧K (AM.mk (enF 65 [.ptr N 0 0]) ((zoh N)::rest) ⟨O1,N+1,G⟩))))=OT f0 R keep K (.ex fun z1:Int=>(.seq [.run 4,.hopn (.int .i64 z1) O (N),.run 2] (.fork 119 (.ex fun i1:Nat=>(.ex fun i2:Nat=>(.ex fun i3:Nat=>(.ex fun s1:AV=>(.seq [.run 4,.hopn (.ptr i1 i2 i3) O (N),.hop (s1) O,.run 4,.keep [2,3]] .fin))))) (.ex fun O1:T AObj=>(.seq [.run 5,.hopn (.agg [.int .i64 9,.str [],.nils 0 0,sl2,.nilp]) O (N),.hopn (.nilp) O1 (N),.keep [125],.run 1] .fin))))) ((Wund sl2 rest O N G)):=by kernel_rfl
theorem zcM:(K (AM.mk (RF 26 129 (tX (tX (tY (.int .i64 crq0)) tZ) (tY prq0)) [.code (cd P (26:FuncId) [1,0,1,0,1])]) rest ⟨O,N,G⟩))=OT f0 R keep K (.seq [.run 7,.keep [2,3]] .fin) ((AM.mk (RF 65 8 (tX (tX (tY (.int .i64 crq0)) tZ) (tY prq0)) td) ((zoh Nc)::rest) ⟨O,N,G⟩)):=by kernel_rfl
end
variable {O O':T AObj} {N:Nat} {G:T (T AV)}
theorem bld9 {s:AV}(h:AV.one s=true):vp P 44 [(0,.int .i64 9),(3,s)]=some (.agg [.int .i64 9,.str [],.nils 0 0,s,.nilp]):=by
 cases s <;> first | (cases h; done) | kernel_rfl
theorem zj4 {w z:Ty}(h:okT w=true∧cnt w≤60)(hz:z∈jN w):okT z=true∧cnt z≤60:=by
 unfold jN at hz
 split at hz
 · cases w with
   | no=>cases hz
   | mk k nm ns aas r =>
    have hz':z∈aas:=hz
    have:=zA hz'
    have h2:=h.2
    rw [xj] at h2
    exact ⟨(xn h.1).2.1 z hz',by omega⟩
 · rw [List.mem_singleton] at hz
   rw [hz]
   exact h
theorem zg2 {ts:List Ty}{ps:List (Option Nat)}{sa:AV}{hi:Nat}{mk:Nat→Prop}(hs:SV O 1 pE 0 hi ps sa)(hl:ps.length=ts.length)(hm:ts.length<10000)(ht:∀ (j:Nat) (x:Ty) (p:Option Nat),ts[j]?=some x→ps[j]?=some p→Tra O hi mk x p)(hN:hi≤N)(hmN:∀ j,mk j→j<N){keep:Nat}{f0:FuncId}{Q:AV→AHeap→Prop}{rest:List AFrame}
 (hK:∀ O' N' td p',Ext O N O' N'→Tra O' N' mk (zfX ts).2 p'→Goal P keep f0 Q (AM.mk (RF 26 129 (tX (tX (tY (.int .i64 (zfX ts).1)) tZ) (tY (pv p'))) td) rest ⟨O',N',G⟩)):Goal P keep f0 Q (AM.mk (enF 26 [sa]) rest ⟨O,N,G⟩):=by
 have bad:zfX ts=(2,.no)→∀ O' N' td,Ext O N O' N'→Goal P keep f0 Q (AM.mk (RF 26 129 (tX (tX (tY (.int .i64 2)) tZ) (tY .nilp)) td) rest ⟨O',N',G⟩):=fun e O' N' td ex=>by
  have:=hK O' N' td none ex (by rw [e]; exact Tra.nil)
  rw [e] at this
  exact this
 refine ot t_uni ⟨_,hs.len pSl _ _,fun hc30=>?_,fun hc30=>?_⟩
 ·
  exact bad (by unfold zfX; rw [if_neg (fun h=>h.1 (List.eq_nil_of_length_eq_zero (by have:=eq_of_beq hc30; omega)))]) O N _ Ext.refl
 ·
  have hne:ts≠[]:=fun h=>by
   have:=beq_eq_false_iff_ne.1 hc30
   rw [hl,h] at this
   exact this rfl
  refine zjI hs hl (by omega) (fun j x p a b=>(ht j x p a b).tr) hN fun O1 N1 td1 ex1=>?_
  have nn1:=ex1.1
  refine ot zlq ⟨fun hc18=>?_,fun hc18=>?_⟩
  ·
   exact bad (by unfold zfX; rw [if_neg (fun h=>by rw [h.2] at hc18; cases hc18)]) O1 N1 _ ex1
  ·
   have hok:ts.all (fun x=>chk x==0)=true:=by simpa using hc18
   have oks:∀ z∈ts,okT z=true∧cnt z≤60:=fun z hz=>tp.chk_ok (by simpa using List.all_eq_true.1 hok z hz)
   have stD:∀ (os:List Ty) (rs:List (Option Nat)) (O2:T AObj) (N2:Nat) (sl2:AV),Ext O N O2 N2→SV O2 1 pE N N2 rs sl2→rs.length=os.length→(∀ (j:Nat) (x:Ty) (p:Option Nat),os[j]?=some x→rs[j]?=some p→Tra O hi mk x p)→os.length<1000000→(∀ z∈os,okT z=true∧cnt z≤60)→zfX ts=zoT os→Goal P keep f0 Q (Wund sl2 rest O2 N2 G):=by
    intro os rs O2 N2 sl2 ex vo hrl hr hol hos eU
    have nn:=ex.1
    by_cases h1:os.length=1
    · have hd1:(((os.length:Nat):Int)==(1:Int))=true:=by rw [h1]; rfl
      obtain ⟨z,hz0,_⟩:=nth (l:=os) (j:=0) (by omega)
      obtain ⟨rp,hz,_⟩:=nth (l:=rs) (j:=0) (by omega)
      have e3:zfX ts=(0,z):=by
       rw [eU]
       unfold zoT
       rw [if_pos h1]
       cases os with
       | nil=>simp at h1
       | cons w l=>simp at hz0; rw [hz0]; rfl
      have:=fun td=>hK O2 N2 td rp ex (by rw [e3]; exact (hr 0 z rp hz0 hz).same (fun i h1 _=>ex.2 i (by omega)) (by omega))
      rw [e3] at this
      obtain ⟨i1v,i2v,i3v,loI,hiI,eI,rdI,_⟩:=vo.at pSl pEn hz
      refine ot zn1 ⟨_,vo.lenE pSl hrl _ _,fkt (hd1) ?_⟩
      exact ⟨_,_,_,(pv rp),eI,rdI.load rfl _ _,this _⟩
    · have hd1:(((os.length:Nat):Int)==(1:Int))=false:=beq_eq_false_iff_ne.2 (by omega)
      obtain ⟨OB,eb,bB,fB⟩:=Obj.box (t:=44) [.int .i64 9,.str [],.nils 0 0,sl2,.nilp] (by simp only [List.all_cons,List.all_nil,Bool.and_true,vo.one]; rfl) O2 N2 5 rfl
      refine ot zn1 ⟨_,vo.lenE pSl hrl _ _,fkf (hd1) ?_⟩
      refine ⟨_,bld9 vo.one,eb,?_⟩
      have node:Tra OB (N2+1) mk (.mk 9 [] [] os .no) (some N2):=Tra.node (by omega) (fun h=>by have:=hmN _ h; omega) bB SV.nil (fun h=>absurd rfl h) (vo.keep (fun j _ hj=>fB j (by omega)) (Nat.zero_le _) (Nat.le_succ _)) (fun h hA=>by have:=(vo.sid_lt h).1; have:=hmN _ hA; omega) hrl (by omega) (by decide) (fun j x p a b=>(hr j x p a b).same (fun i h1 _=>(fB i (by omega)).trans (ex.2 i (by omega))) (by omega)) Tra.nil
      have exB:Ext O N OB (N2+1):=ex.trans (Ext.new fB)
      refine zlN (p:=some N2) node.tr (fun h td=>?_) (fun h td=>?_)
      · have e3:zfX ts=(3,.no):=by rw [eU]; unfold zoT zmU; rw [if_neg h1,if_pos h]
        have:=fun td=>hK OB (N2+1) td none exB (by rw [e3]; exact Tra.nil)
        rw [e3] at this
        exact ot zcM (this _)
      · have e3:zfX ts=(0,.mk 9 [] [] os .no):=by rw [eU]; unfold zoT zmU; rw [if_neg h1,if_neg (by omega)]
        have:=fun td=>hK OB (N2+1) td (some N2) exB (by rw [e3]; exact node)
        rw [e3] at this
        exact ot zcM (this _)
   have stB:∀ (OF:T AObj) (NF:Nat) (fs:List Ty) (qs:List (Option Nat)) (sl:AV),Ext O N OF NF→SV OF 1 pE N NF qs sl→qs.length=fs.length→fs=ts.flatMap jN→(∀ z∈ts,kd z≠1)→(∀ (j:Nat) (x:Ty) (p:Option Nat),fs[j]?=some x→qs[j]?=some p→Tra O hi mk x p)→fs.length≤60*ts.length→Goal P keep f0 Q (zpL 0 sl (.nils 0 0) rest OF NF G):=by
    intro OF NF fs qs sl exF vF hq hfs hany hrF hfl
    have okf:∀ z∈fs,okT z=true∧cnt z≤60:=fun z hz=>by
     rw [hfs,List.mem_flatMap] at hz
     obtain ⟨w,hw,hz⟩:=hz
     exact zj4 (oks w hw) hz
    have eU:zfX ts=zoT (ziY fs []):=by
     unfold zfX
     rw [if_pos ⟨hne,hok⟩,if_neg (fun h=>by obtain ⟨w,hw,h⟩:=List.any_eq_true.1 h; exact hany w hw (by simpa using h)),hfs]
    have loopB:∀ (k i:Nat) (O2:T AObj) (N2:Nat) (os:List Ty) (rs:List (Option Nat)) (sl2:AV),i+k=fs.length→Ext OF NF O2 N2→SV O2 1 pE N N2 rs sl2→rs.length=os.length→(∀ (j:Nat) (x:Ty) (p:Option Nat),os[j]?=some x→rs[j]?=some p→Tra O hi mk x p)→os.length≤i→(∀ z∈os,okT z=true∧cnt z≤60)→ziY fs []=ziY (fs.drop i) os→Goal P keep f0 Q (zpL ((i:Nat):Int) sl sl2 rest O2 N2 G):=by
     intro k
     induction k with
     | zero =>
      intro i O2 N2 os rs sl2 hk exB vo hrl hr hil hos hv
      have nnB:=exB.1
      have nnF:=exF.1
      have ex:Ext O N O2 N2:=exF.trans exB
      have vf:=vF.keep (O':=O2) (fun j _ hj=>exB.2 j hj) (Nat.le_refl _) nnB
      rw [List.drop_of_length_le (by omega),zmS] at hv
      rw [hv] at eU
      have nx:=stD os rs O2 N2 sl2 ex vo hrl hr (by omega) hos eU
      refine ot znN ⟨_,vf.lenE pSl hq _ _,fkf (decide_eq_false (by omega)) ?_⟩
      exact nx
     | succ k ih0 =>
      intro i O2 N2 os rs sl2 hk exB vo hrl hr hil hos hv
      have nnB:=exB.1
      have nnF:=exF.1
      have ex:Ext O N O2 N2:=exF.trans exB
      have vf:=vF.keep (O':=O2) (fun j _ hj=>exB.2 j hj) (Nat.le_refl _) nnB
      have ih:=fun i=>fun O3 N3 os rs sl2 h1 (h2:Ext O2 N2 O3 N3)=>ih0 i O3 N3 os rs sl2 h1 (exB.trans h2)
      obtain ⟨x,hx,hxm⟩:=nth (l:=fs) (j:=i) (by omega)
      obtain ⟨y,hy,_⟩:=nth (l:=qs) (j:=i) (by omega)
      have okx:=okf x hxm
      have tx0:=hrF i x y hx hy
      rw [zk hx,zeT] at hv
      have after:∀ (a:Nat) (O3:T AObj) (N3:Nat),Ext O2 N2 O3 N3→zdN (fun z=>Op.bytesLess (wr z) (wr x)) os=a→Goal P keep f0 Q (Wune ((i:Nat):Int) ((a:Nat):Int) sl sl2 rest O3 N3 G):=by
       intro a O3 N3 ex3 hua
       have nn3:=ex3.1
       have hal:a≤os.length:=hua▸zdT
       rw [hua] at hv
       have vo3:=vo.keep (O':=O3) (fun j _ hj=>ex3.2 j (by omega)) (Nat.le_refl _) (Nat.le_refl _)
       have vf3:=vf.keep (O':=O3) (fun j _ hj=>ex3.2 j (by omega)) (Nat.le_refl _) (Nat.le_refl _)
       have low3:∀ j,j<N→O3.get j=O.get j:=fun j hj=>(ex3.2 j (by omega)).trans (ex.2 j hj)
       have insd:∀ (O3:T AObj) (N3:Nat),Ext O2 N2 O3 N3→(os[a]?).map wr≠some (wr x)→Goal P keep f0 Q (Wunf ((i:Nat):Int) ((a:Nat):Int) sl sl2 rest O3 N3 G):=by
        intro O3 N3 ex3 hne
        have nn3:=ex3.1
        have vo3:=vo.keep (O':=O3) (fun j _ hj=>ex3.2 j (by omega)) (Nat.le_refl _) (Nat.le_refl _)
        have vf3:=vf.keep (O':=O3) (fun j _ hj=>ex3.2 j (by omega)) (Nat.le_refl _) (Nat.le_refl _)
        rw [if_neg hne] at hv
        obtain ⟨r1,r2,r3,lor,hir,eR,rdR,_⟩:=vf3.at pSl pEn hy
        obtain ⟨s1,O4,N4,s2,O5,O6,N6,s3,s4,O7,N7,s5,a1,a2,a3,a4,a5,a6,g6,m1,m2,m3,f3,f5,f6⟩:=zbu pSl pEn vo3 (by omega) (a:=a) (by omega) y (zqh y) (by omega) G
        have nx:=ih (i+1) O7 N7 (ins a x os) (ins a y rs) s5 (by omega) ⟨by omega,fun j hj=>(f6 j (by omega)).trans (ex3.2 j (by omega))⟩ ((g6.sv pEn).keep (fun _ _ _=>rfl) (by omega) (Nat.le_refl _)) (by rw [qa (by omega),qa (by omega)]; omega) (zlj hrl hal tx0 hr) (by rw [qa hal]; omega) (fun z hz=>(zea.1 hz).elim (fun h=>h▸okx) (hos z)) hv
        rw [← zx (i:=i) (by omega)] at nx
        exact ot zqd ⟨_,_,_,_,_,_,_,_,_,_,_,_,_,_,_,_,a1,a2,eR,(rdR.same (f3 _ (by omega))).load rfl _ _,a3,a4,a5,a6,nx⟩
       by_cases hla:a<os.length
       · obtain ⟨z,hz,hzm⟩:=nth (l:=os) (j:=a) hla
         obtain ⟨zp,hzp,_⟩:=nth (l:=rs) (j:=a) (by omega)
         refine ot znG ⟨_,vo3.lenE pSl hrl _ _,fkt (decide_eq_true (by omega)) ?_⟩
         obtain ⟨i1v,i2v,i3v,lo8,hi8,eA8,rd8,_⟩:=vo3.at pSl pEn hzp
         obtain ⟨i4v,i5v,i6v,lo9,hi9,eA9,rd9,_⟩:=vf3.at pSl pEn hy
         refine ⟨i1v,i2v,i3v,(pv zp),i4v,i5v,i6v,(pv y),eA8,rd8.load rfl _ _,eA9,rd9.load rfl _ _,?_⟩
         have rdF:=rd9
         have tz:=(hr _ _ _ hz hzp).tr.same (O':=O3) (fun j hj=>low3 j (by omega)) (Nat.le_refl _)
         refine vR (cnt z) z zp _ O3 N3 ⟨Nat.le_refl _,(hos z hzm).2⟩ (hos z hzm).1 tz (by omega) fun O4 N4 td4 ex4=>?_
         have nn4:=ex4.1
         have ty4:=tx0.tr.same (O':=O4) (fun j hj=>(ex4.2 j (by omega)).trans (low3 j (by omega))) (Nat.le_refl _)
         refine ot zjh ⟨trivial,(rdF.same (ex4.2 _ (by omega))).load rfl _ _,zeS _,?_⟩
         refine vR (cnt x) x y _ O4 N4 ⟨Nat.le_refl _,okx.2⟩ okx.1 ty4 (by omega) fun O5 N5 td5 ex5=>?_
         have nn5:=ex5.1
         refine ot zc9 ⟨fun hc11=>?_,fun hc11=>?_⟩
         ·
          have he:=eq_of_beq hc11
          rw [if_pos (by rw [hz,Option.map_some,he])] at hv
          have ex5':=ex3.trans (ex4.trans ex5)
          have nx:=ih (i+1) O5 N5 os rs sl2 (by omega) ex5' (vo.keep (fun j _ hj=>ex5'.2 j (by omega)) (Nat.le_refl _) (by omega)) hrl hr (by omega) hos hv
          rw [← zx (i:=i) (by omega)] at nx
          exact nx
         ·
          have he:=beq_eq_false_iff_ne.1 hc11
          exact insd O5 N5 (ex3.trans (ex4.trans ex5)) (by rw [hz,Option.map_some]; intro h; injection h with h; exact he h)
       · skip
         refine ot znG ⟨_,vo3.lenE pSl hrl _ _,fkf (decide_eq_false (by omega)) ?_⟩
         exact insd O3 N3 ex3 (by rw [List.getElem?_eq_none (by omega)]; simp)
      have inner:∀ (k' a:Nat) (O3:T AObj) (N3:Nat),a+k'=os.length→Ext O2 N2 O3 N3→(∀ k,k<a→∃ z,os[k]?=some z∧Op.bytesLess (wr z) (wr x)=true)→Goal P keep f0 Q (Wunc ((i:Nat):Int) ((a:Nat):Int) sl sl2 rest O3 N3 G):=by
       intro k'
       induction k' with
       | zero =>
        intro a O3 N3 hk' ex3 hbel
        have nn3:=ex3.1
        have vo3:=vo.keep (O':=O3) (fun j _ hj=>ex3.2 j (by omega)) (Nat.le_refl _) (Nat.le_refl _)
        have nx:=after a O3 N3 ex3 (zbd hbel (.inl (by omega)))
        refine ot znb ⟨_,vo3.lenE pSl hrl _ _,fkf (decide_eq_false (by omega)) ?_⟩
        exact nx
       | succ k' ih' =>
        intro a O3 N3 hk' ex3 hbel
        have nn3:=ex3.1
        have vo3:=vo.keep (O':=O3) (fun j _ hj=>ex3.2 j (by omega)) (Nat.le_refl _) (Nat.le_refl _)
        have vf3:=vf.keep (O':=O3) (fun j _ hj=>ex3.2 j (by omega)) (Nat.le_refl _) (Nat.le_refl _)
        have low3:∀ j,j<N→O3.get j=O.get j:=fun j hj=>(ex3.2 j (by omega)).trans (ex.2 j hj)
        obtain ⟨z,hz,hzm⟩:=nth (l:=os) (j:=a) (by omega)
        obtain ⟨zp,hzp,_⟩:=nth (l:=rs) (j:=a) (by omega)
        refine ot znb ⟨_,vo3.lenE pSl hrl _ _,fkt (decide_eq_true (by omega)) ?_⟩
        obtain ⟨i1v,i2v,i3v,lo2,hi2,eA2,rd2,_⟩:=vo3.at pSl pEn hzp
        obtain ⟨i4v,i5v,i6v,lo3,hi3,eA3,rd3,_⟩:=vf3.at pSl pEn hy
        refine ⟨i1v,i2v,i3v,(pv zp),i4v,i5v,i6v,(pv y),eA2,rd2.load rfl _ _,eA3,rd3.load rfl _ _,?_⟩
        have rdF:=rd3
        have tz:=(hr _ _ _ hz hzp).tr.same (O':=O3) (fun j hj=>low3 j (by omega)) (Nat.le_refl _)
        refine vR (cnt z) z zp _ O3 N3 ⟨Nat.le_refl _,(hos z hzm).2⟩ (hos z hzm).1 tz (by omega) fun O4 N4 td4 ex4=>?_
        have nn4:=ex4.1
        have ty4:=tx0.tr.same (O':=O4) (fun j hj=>(ex4.2 j (by omega)).trans (low3 j (by omega))) (Nat.le_refl _)
        refine ot zjb ⟨trivial,(rdF.same (ex4.2 _ (by omega))).load rfl _ _,zeS _,?_⟩
        refine vR (cnt x) x y _ O4 N4 ⟨Nat.le_refl _,okx.2⟩ okx.1 ty4 (by omega) fun O5 N5 td5 ex5=>?_
        have nn5:=ex5.1
        refine ot zd5 ?_
        have w1:=x6 (hos z hzm).1 (hos z hzm).2
        have w2:=x6 okx.1 okx.2
        refine zh6 (wr z) (wr x) (by omega) (by omega) fun td6=>?_
        refine ot zav ⟨fun hc5=>?_,fun hc5=>?_⟩
        ·
         have nx:=ih' (a+1) O5 N5 (by omega) (ex3.trans (ex4.trans ex5)) (fun k hk=>by
          by_cases hka:k=a
          · exact ⟨z,hka▸hz,hc5⟩
          · exact hbel k (by omega))
         rw [← zx (i:=a) (by omega)] at nx
         exact nx
        ·
         exact after a O5 N5 (ex3.trans (ex4.trans ex5)) (zbd hbel (.inr ⟨z,hz,hc5⟩))
      have nx:=inner os.length 0 O2 N2 (Nat.zero_add _) Ext.refl (fun k h=>absurd h (Nat.not_lt_zero _))
      refine ot znN ⟨_,vf.lenE pSl hq _ _,fkt (decide_eq_true (by omega)) ?_⟩
      exact nx
    exact loopB fs.length 0 OF NF [] [] (.nils 0 0) (Nat.zero_add _) Ext.refl SV.nil rfl (fun j x p h=>by simp at h) (Nat.zero_le _) (fun z h=>by cases h) (by rw [List.drop_zero])
   have loopA:∀ (k i:Nat) (O2:T AObj) (N2:Nat) (fs:List Ty) (qs:List (Option Nat)) (sl:AV),i+k=ts.length→Ext O N O2 N2→GV O2 23 1 pE N N2 qs sl→qs.length=fs.length→fs=(ts.take i).flatMap jN→(∀ z∈ts.take i,kd z≠1) →
    (∀ (j:Nat) (x:Ty) (p:Option Nat),fs[j]?=some x→qs[j]?=some p→Tra O hi mk x p)→fs.length≤60*i→Goal P keep f0 Q (zpU sa ((i:Nat):Int) sl rest O2 N2 G):=by
    intro k
    induction k with
    | zero =>
     intro i O2 N2 fs qs sl hk ex gv hq hfs hany hr hfl
     have nn:=ex.1
     have hs2:=hs.keep (O':=O2) (fun j _ hj=>ex.2 j (by omega)) (Nat.le_refl 0) (Nat.le_refl hi)
     have hall:ts.take i=ts:=List.take_of_length_le (by omega)
     rw [hall] at hfs hany
     have nx:=stB O2 N2 fs qs sl ex (gv.sv pEn) hq hfs hany hr (by omega)
     refine ot (zna (q:=0) (k2:=0) (sa2:=.nilp)) ⟨_,hs2.lenE pSl hl _ _,fkf (decide_eq_false (by omega)) ?_⟩
     exact nx
    | succ k ih =>
     intro i O2 N2 fs qs sl hk ex gv hq hfs hany hr hfl
     have nn:=ex.1
     have hNN:N≤N2:=nn
     have hs2:=hs.keep (O':=O2) (fun j _ hj=>ex.2 j (by omega)) (Nat.le_refl 0) (Nat.le_refl hi)
     obtain ⟨x,hx,hxm⟩:=nth (l:=ts) (j:=i) (by omega)
     obtain ⟨y,hy,_⟩:=nth (l:=ps) (j:=i) (by omega)
     have tx0:=ht i x y hx hy
     have okx:=oks x hxm
     cases x with
     | no=>have:=okx.1; rw [ye] at this; cases this
     | mk kx nmx nsx asx rx =>
      obtain ⟨id,snx,sax,psx,qx,rfl,ix,imk,obx0,svn0,mn0,svx0,mx0,lx,lx6,ln6,rx8,tr9⟩:=Tra.inv tx0
      have obx:=obx0.same (ex.2 id (by omega))
      have svx:=svx0.keep (O':=O2) (fun j _ hj=>ex.2 j (by omega)) (Nat.le_refl 0) (Nat.le_refl hi)
      have c60:=okx.2
      rw [xj] at c60
      have cl:=zc2 (l:=asx) (fun z hz=>zdr ((xn okx.1).2.1 z hz))
      refine ot (zna (q:=id) (k2:=kx) (sa2:=sax)) ⟨_,hs2.lenE pSl hl _ _,fkt (decide_eq_true (by omega)) ?_⟩
      obtain ⟨i1v,i2v,i3v,lo21,hi21,eA21,rd21,_⟩:=hs2.at pSl pEn hy
      refine ⟨i1v,i2v,i3v,eA21,rd21.load rfl _ _,obx.ld 0 rfl,fun hc22=>?_,fun hc22=>?_⟩
      ·
       obtain ⟨O1v,e23,b23,f23⟩:=Obj.mk (c:=(tW (tW (tY (.nils 0 0)) (.str []) tZ) (.int .i64 1) (tW (tY .nilp) (.nils 0 0) tZ))) (el:=44) [(.int .i64 1),(.str []),(.nils 0 0),(.nils 0 0),.nilp] O2 N2 5 rfl (fun u hu=>by rcases u with _ | _ | _ | _ | _ | u <;> first | rfl | omega)
       have b24:=obx.same (f23 _ (by omega))
       refine ⟨O1v,e23,?_⟩
       have tl:Tra O1v (N2+1) mk (.mk 1 [] [] [] .no) (some N2):=Tra.node (ps:=[]) (q:=none) (by omega) (fun h=>by have:=hmN _ h; omega) b23 SV.nil (fun h=>absurd rfl h) SV.nil (fun h=>absurd rfl h) rfl (by decide) (by decide) (fun j x p h=>by simp at h) Tra.nil
       have e1:zfX ts=(0,.mk 1 [] [] [] .no):=by
        unfold zfX
        rw [if_pos ⟨hne,hok⟩,if_pos (List.any_eq_true.2 ⟨_,hxm,by show (kx==1)=true; exact hc22⟩)]
       have:=fun td=>hK O1v (N2+1) td (some N2) (ex.trans (Ext.new f23)) (by rw [e1]; exact tl)
       rw [e1] at this
       exact this _
      ·
       obtain ⟨i4v,i5v,i6v,lo25,hi25,eA25,rd25,_⟩:=hs2.at pSl pEn hy
       refine ⟨i4v,i5v,i6v,eA25,rd25.load rfl _ _,obx.ld 0 rfl,fun hc26=>?_,fun hc26=>?_⟩
       ·
        obtain ⟨i7v,i8v,i9v,lo27,hi27,eA27,rd27,_⟩:=hs2.at pSl pEn hy
        have hk1:kd (.mk kx nmx nsx asx rx)≠1:=by show ¬ kx=1; simpa using hc22
        have hx9:jN (.mk kx nmx nsx asx rx)=asx:=by unfold jN; rw [if_pos (by show kx=9; simpa using hc26)]; rfl
        obtain ⟨O3,N3,s3,ea,g3,m1,m2,f3,_⟩:=gv.app pSl pEn svx hNN (by rw [lx,hq]; omega) G
        have low3:∀ j,j<N→O3.get j=O2.get j:=fun j hj=>f3 j (by omega) (fun h=>by have:=(gv.sid_lt h).1; omega)
        have nx:=ih (i+1) O3 N3 (fs++asx) (qs++psx) s3 (by omega) ⟨by omega,fun j hj=>(low3 j hj).trans (ex.2 j hj)⟩ g3 (by rw [List.length_append,List.length_append,hq,lx]) (by rw [jf hx,List.flatMap_append,← hfs,List.flatMap_cons,hx9]; simp) (fun z hz=>by rw [jf hx,List.mem_append,List.mem_singleton] at hz; exact hz.elim (hany z) (fun h=>by rw [h]; exact hk1)) (zc6 hq hr (fun j x p a b=>(rx8 j x p a b))) (by rw [List.length_append]; have:=c60; omega)
        rw [← zx (i:=i) (by omega)] at nx
        exact ⟨i7v,i8v,i9v,_,_,_,eA27,rd27.load rfl _ _,obx.ld 3 rfl,ea,nx⟩
       ·
        obtain ⟨i7v,i8v,i9v,lo28,hi28,eA28,rd28,_⟩:=hs2.at pSl pEn hy
        have hk1:kd (.mk kx nmx nsx asx rx)≠1:=by show ¬ kx=1; simpa using hc22
        have hx9:jN (.mk kx nmx nsx asx rx)=[.mk kx nmx nsx asx rx]:=by unfold jN; rw [if_neg (by show ¬ kx=9; simpa using hc26)]
        obtain ⟨OL,el,vL,_,fL⟩:=qi pEn (some id) O2 N2 G (st:=33) (el:=23) (zqh (some id))
        have gvL:=gv.keep (O':=OL) (fun j h1 h2=>fL j (by omega)) (Nat.le_refl _) (Nat.le_succ N2)
        obtain ⟨O3,N3,s3,ea,g3,m1,m2,f3,_⟩:=gvL.app pSl pEn vL (by omega) (by rw [hq]; simp only [List.length_cons,List.length_nil]; omega) G
        have low3:∀ j,j<N→O3.get j=O2.get j:=fun j hj=>(f3 j (by omega) (fun h=>by have:=(gv.sid_lt h).1; omega)).trans (fL j (by omega))
        have nx:=ih (i+1) O3 N3 (fs++[.mk kx nmx nsx asx rx]) (qs++[some id]) s3 (by omega) ⟨by omega,fun j hj=>(low3 j hj).trans (ex.2 j hj)⟩ g3 (by rw [List.length_append,List.length_append,hq]; rfl) (by rw [jf hx,List.flatMap_append,← hfs,List.flatMap_cons,hx9]; simp) (fun z hz=>by rw [jf hx,List.mem_append,List.mem_singleton] at hz; exact hz.elim (hany z) (fun h=>by rw [h]; exact hk1)) (zc6 hq hr (fun j x p a b=>by rcases j with _ | j <;> simp at a b; subst a; subst b; exact tx0)) (by rw [List.length_append]; simp only [List.length_cons,List.length_nil]; omega)
        rw [← zx (i:=i) (by omega)] at nx
        exact ⟨i7v,i8v,i9v,_,_,_,_,eA28,rd28.load rfl _ _,el,ea,nx⟩
   exact loopA ts.length 0 O1 N1 [] [] (.nils 0 0) (Nat.zero_add _) ex1 GV.nil rfl rfl (fun z hz=>by simp at hz) (fun j x p h=>by simp at h) (by simp)
end Go.Proofs.Ytcdigdplhlgcaaa.gx
end
section
set_option maxRecDepth 100000
set_option linter.unusedVariables false
set_option linter.unusedSectionVars false
namespace Go.Proofs.Ytcdigdplhlgcaaa.gx
open Go Ev tp
theorem zhq:∀ {ns:List zi} {ts:List Ty} {xs:List zi} {us:List Ty} {r:List zi × List Ty},znE ns ts xs us=some r→xs.length=us.length→r.1.length=r.2.length∧∀ u∈r.2,u∈us∨u∈ts
 | [],ts,xs,us,r,h,hl=>by
  rw [zhv] at h
  cases h
  exact ⟨hl,fun u hu=>.inl hu⟩
 | n::ns,[],xs,us,r,h,hl=>by
  have h':some (xs,us)=some r:=h
  cases h'
  exact ⟨hl,fun u hu=>.inl hu⟩
 | n::ns,t::ts,xs,us,r,h,hl=>by
  rw [zen] at h
  split at h
  · split at h
    · cases h
    · have hu:zdN (fun x=>Op.bytesLess x n) xs≤xs.length:=zdT
      obtain ⟨h1,h2⟩:=zhq h (by rw [qa hu,qa (by omega),hl])
      refine ⟨h1,fun u hu=>?_⟩
      rcases h2 u hu with h | h
      · rcases zea.1 h with h | h
        · exact .inr (h▸List.mem_cons_self)
        · exact .inl h
      · exact .inr (List.mem_cons_of_mem _ h)
  · cases h
theorem zol {k:Int}{nm:zi}{ns:List zi}{us:List Ty}(hk:k≠1)(h:∀ u∈us,naT u=true):naT (.mk k nm ns us .no)=true:=by
 simp only [naT,zc4,Bool.and_eq_true,List.all_eq_true,Bool.not_eq_true',beq_eq_false_iff_ne]
 exact ⟨⟨hk,h⟩,trivial⟩
theorem zdH {an:Bool}{ns:List zi}{ts:List Ty}(h:(zf6 ns ts).1=0)(na:an=false→∀ x∈ts,naT x=true):MadeT an (zf6 ns ts).2:=by
 unfold zf6 at h ⊢
 split at h
 · rename_i hc
   rw [if_pos hc]
   split at h
   · cases h
   · rename_i xs us hr
     obtain ⟨h1,h2⟩:=zhq hr rfl
     have h3:∀ u∈us,u∈ts:=fun u hu=>(h2 u hu).elim (fun h=>absurd h List.not_mem_nil) id
     unfold zmU at h ⊢
     split at h
     · cases h
     · rename_i hs
       rw [if_neg hs]
       exact ⟨7,[],xs,us,.no,rfl,Nat.le_of_not_lt hs,fun x hx=>qQ (by simpa using List.all_eq_true.1 hc.2 x (h3 x hx)),fun _=>h1,fun h=>absurd h (by decide),fun ha=>zol (by decide) fun u hu=>na ha u (h3 u hu)⟩
 · cases h
theorem zd9:∀ {fs out:List Ty} {u:Ty},u∈ziY fs out→u∈out∨u∈fs
 | [],out,u,h=>.inl h
 | t::fs,out,u,h=>by
  rw [zeT] at h
  split at h
  · exact (zd9 h).imp_right (List.mem_cons_of_mem _)
  · rcases zd9 h with h | h
    · rcases zea.1 h with h | h
      · exact .inr (h▸List.mem_cons_self)
      · exact .inl h
    · exact .inr (List.mem_cons_of_mem _ h)
theorem zoO {w z:Ty}(h:naT w=true)(hz:z∈jN w):naT z=true:=by
 unfold jN at hz
 split at hz
 · cases w with
   | no=>cases hz
   | mk k nm ns aas r=>exact (qM h).2.1 z hz
 · rw [List.mem_singleton] at hz
   rw [hz]
   exact h
theorem zdc {an:Bool}{ts:List Ty}(h:(zfX ts).1=0)(na:an=false→∀ x∈ts,naT x=true):MadeT an (zfX ts).2:=by
 unfold zfX at h ⊢
 split at h
 · rename_i hc
   rw [if_pos hc]
   split at h
   · rename_i ha
     rw [if_pos ha]
     refine MadeT.leaf (by decide) (by decide) fun hf=>?_
     obtain ⟨x,hx,hk⟩:=List.any_eq_true.1 ha
     have:=na hf x hx
     cases x with
     | no=>cases hk
     | mk k nm ns aas r =>
      have hk':k=1:=by
       have h2:(k==1)=true:=hk
       simpa using h2
      exact absurd hk' (qM this).1
   · rename_i ha
     rw [if_neg ha]
     have hm:∀ u∈ziY (ts.flatMap jN) [],(okT u=true∧cnt u≤60)∧(an=false→naT u=true):=fun u hu=>by
      rcases zd9 hu with h | h
      · cases h
      · obtain ⟨w,hw,hz⟩:=List.mem_flatMap.1 h
        exact ⟨zj4 (tp.chk_ok (by simpa using List.all_eq_true.1 hc.2 w hw)) hz,fun hf=>zoO (na hf w hw) hz⟩
     revert h hm
     generalize ziY (ts.flatMap jN) []=out
     intro h hm
     unfold zoT at h ⊢
     split at h
     · rename_i h1
       rw [if_pos h1]
       cases out with
       | nil=>cases h1
       | cons u l =>
        have:=hm u List.mem_cons_self
        exact zdo this.1.1 this.1.2 this.2
     · rename_i h1
       rw [if_neg h1]
       unfold zmU at h ⊢
       split at h
       · cases h
       · rename_i hs
         rw [if_neg hs]
         exact ⟨9,[],[],out,.no,rfl,Nat.le_of_not_lt hs,fun x hx=>(hm x hx).1.1,fun h=>absurd h (by decide),fun h=>absurd h (by decide),fun hf=>zol (by decide) fun u hu=>(hm u hu).2 hf⟩
 · cases h
end Go.Proofs.Ytcdigdplhlgcaaa.gx
end
section
set_option maxRecDepth 100000
set_option linter.unusedVariables false
set_option linter.unusedSectionVars false
namespace Go.Proofs.Ytcdigdplhlgcaaa.gx
open Go Ev tp
variable {O O':T AObj} {N:Nat} {G:T (T AV)}
def AvS (A:Nat→Prop) (s:AV) (j:Nat):Prop:=A j∨(s≠.nils 0 0∧j=sid s)
theorem AvS.nil {A:Nat→Prop}{j:Nat}(h:AvS A (.nils 0 0) j):A j:=h.elim id fun h=>absurd rfl h.1
theorem zlm {A:Nat→Prop}{lo:Nat}{ts:List Ty}{ps:List (Option Nat)}{s:AV}{t:Ty}{p:Option Nat}(gv:GV O 23 1 pE lo N ps s)(hlo:lo≤N)(hl:ps.length=ts.length)(hn:ts.length<1000)(hr:∀ (j:Nat) (x:Ty) (p:Option Nat),ts[j]?=some x→ps[j]?=some p→Tra O N (AvS A s) x p)(tx:Tra O N (AvS A s) t p)(G:T (T AV)) :
 ∃ O1 s1 O2 N1,zd P ⟨O,N,G⟩ 33 1 [(0,pv p)]=some (.slc N 0 0 1 1,⟨O1,N+1,G⟩)∧zf P ⟨O1,N+1,G⟩ .append (some 33) (some 33) [s,.slc N 0 0 1 1]=some (.val s1 ⟨O2,N1,G⟩)∧GV O2 23 1 pE lo N1 (ps++[p]) s1∧N≤N1∧(∀ j,j<N→(s≠.nils 0 0→j≠sid s)→O2.get j=O.get j) ∧
  (∀ (j:Nat) (x:Ty) (q:Option Nat),(ts++[t])[j]?=some x→(ps++[p])[j]?=some q→Tra O2 N1 (AvS A s1) x q):=by
 obtain ⟨O1,e1,v1,_,f1⟩:=qi pEn p O N G (st:=33) (el:=23) (zqh p)
 have g1:=gv.keep (O':=O1) (fun j h1 h2=>f1 j (by omega)) (Nat.le_refl _) (Nat.le_succ N)
 obtain ⟨O2,N1,s1,e2,g2,n1,n2,f2,hs⟩:=g1.app pSl pEn v1 (by omega) (by rw [hl]; simp only [List.length_cons,List.length_nil]; omega) G
 have lo2:∀ j,j<N→(s≠.nils 0 0→j≠sid s)→O2.get j=O.get j:=fun j hj hs=>(f2 j (by omega) hs).trans (f1 j (by omega))
 have mv:∀ {x:Ty} {q:Option Nat},Tra O N (AvS A s) x q→Tra O2 N1 (AvS A s1) x q:=fun h =>
  ((h.same (fun j hj hb=>lo2 j hj fun hs hj=>hb (.inr ⟨hs,hj⟩)) (Nat.le_refl _)).imp fun j hj hb=>by
   rcases hb with hb | ⟨h1,h2⟩
   · exact .inl hb
   · rcases hs with h | h | ⟨h3,h⟩
     · exact absurd h h1
     · omega
     · exact .inr ⟨h3,by omega⟩).same (fun _ _ _=>rfl) (by omega)
 exact ⟨O1,s1,O2,N1,e1,e2,g2,by omega,lo2,zc6 hl (fun j x y a b=>mv (hr j x y a b)) (fun j x y a b=>by
  rcases j with _ | j <;> simp at a b
  subst a
  subst b
  exact mv tx)⟩
def abc:List zi:=[[97],[98],[99]]
theorem zmh {id n hi:Nat}(ob:Obj O id [.str [97],.str [98],.str [99]])(hi':id<hi)(hn:n≤3)(N:Nat)(G:T (T AV)):∃ s,xD P ⟨O,N,G⟩ 90 (.ptr id 0 0) none (some ((n:Nat):Int)) none=some s∧SV O 1 sE 0 hi (abc.take n) s:=by
 have rd:Rd O id 0 0 ((abc.take n).flatMap sE):=Rd.ofRow ob (by rcases n with _ | _ | _ | _ | n <;> first | decide | omega) (fun k hk=>by
  rcases n with _ | _ | _ | _ | n
  · exact absurd hk (Nat.not_lt_zero _)
  · rcases k with _ | k <;> first | rfl | (exfalso; simp [abc,sE] at hk; done) | (exfalso; simp [abc,sE] at hk; omega)
  · rcases k with _ | _ | k <;> first | rfl | (exfalso; simp [abc,sE] at hk; done) | (exfalso; simp [abc,sE] at hk; omega)
  · rcases k with _ | _ | _ | k <;> first | rfl | (exfalso; simp [abc,sE] at hk; done) | (exfalso; simp [abc,sE] at hk; omega)
  · omega)
 have hl:(abc.take n).length=n:=by rcases n with _ | _ | _ | _ | n <;> first | rfl | omega
 refine ⟨.slc id 0 0 n 3,?_,.inr (.inl ⟨id,0,0,3,by rw [hl],by rw [hl]; exact hn,Nat.zero_le _,hi',rd⟩)⟩
 rcases n with _ | _ | _ | _ | n
 · kernel_rfl
 · kernel_rfl
 · kernel_rfl
 · kernel_rfl
 · omega
end Go.Proofs.Ytcdigdplhlgcaaa.gx
end
section
set_option maxRecDepth 100000
set_option linter.unusedVariables false
set_option linter.unusedSectionVars false
set_option linter.unusedSimpArgs false
namespace Go.Proofs.Ytcdigdplhlgcaaa.gx
open Go Ev tp
noncomputable def Fsom (n:Int) (mk:Nat):AFrame:=⟨79,20,(tW (tW (tX (tY (.ptr mk 0 0)) tZ) (.int .i64 n) (tY (.nils 0 0))) (.ptr mk 0 0) tZ),   [.ops (rg P 79 [1,1,0,0]).toList ((rg P 79 [1,1,0,0]).toList.drop 1),.code (cd P 79 [1,1,0,1]),.code (cd P 79 [1,1,1])],[],.run,CallKind.normal,none⟩
noncomputable def Wsom (n:Int) (j:Int) (mk:Nat) (sl2:AV) (rest:List AFrame) (O:T AObj) (N:Nat) (G:T (T AV)):AM:=⟨⟨79,20,(tW (tW tZ (.int .i64 n) (tY sl2)) (.ptr mk 0 0) (tX tZ (tY (.int .i64 j)))),   [.code (cd P 79 [1,1,0,1,0,0]),.inLoop (cd P 79 [1,1,0,1,0,0]),.inBlock 0,.code (cd P (79:FuncId) [1,1,1])],[],.run,CallKind.normal,none⟩,rest,⟨O,N,G⟩⟩
noncomputable def znF (n:Int) (j:Int) (mk:Nat) (sl2:AV):AFrame:=⟨79,20,(tW (tW (tX (tX (tY (.int .i64 n)) tZ) tZ) (.int .i64 n) (tX tZ (tY sl2))) (.ptr mk 0 0) (tX tZ (tW tZ (.int .i64 j) (tY (.ptr mk 0 0))))),   [.ops (rg P 79 [1,1,0,1,0,0,1,0,0]).toList ((rg P 79 [1,1,0,1,0,0,1,0,0]).toList.drop 3),.inBlock 1,.code (cd P 79 [1,1,0,1,0,0,1,1]),.inLoop (cd P (79:FuncId) [1,1,0,1,0,0]),.inBlock 0,.code (cd P (79:FuncId) [1,1,1])],[],.run,CallKind.normal,none⟩
noncomputable def zrq (mk:Nat):AFrame:=⟨39,78,(tX (tX tZ (tX (tX tZ (tY (.ptr mk 0 0))) tZ)) tZ),   [.ops (rg P 39 [1,1,0,1,0,0]).toList ((rg P 39 [1,1,0,1,0,0]).toList.drop 1),.code (cd P 39 [1,1,0,1,0,1]),.code (cd P 39 [1,1,1])],[],.run,CallKind.normal,none⟩
noncomputable def zov (mk:Nat):AFrame:=⟨39,78,(tX (tX tZ (tX (tX tZ (tY (.ptr mk 0 0))) tZ)) tZ),   [.ops (rg P 39 [1,1,0,1,0,0]).toList ((rg P 39 [1,1,0,1,0,0]).toList.drop 1),.code (cd P 39 [1,1,0,1,0,1]),.code (cd P 39 [1,1,1])],[],.run,CallKind.normal,none⟩
noncomputable def znh (N:Nat) (n:Int) (mk:Nat):AFrame:=⟨39,78,(tW (tW tZ (.int .i64 n) (tY (.ptr N 0 0))) (.ptr mk 0 0) (tX (tX tZ (tX tZ (tY (.ptr mk 0 0)))) tZ)),   [.ops (rg P 39 [1,1,1,1,0,0]).toList ((rg P 39 [1,1,1,1,0,0]).toList.drop 1),.code (cd P 39 [1,1,1,1,0,1]),.code (cd P 39 [1,1,1,1,1])],[],.run,CallKind.normal,none⟩
noncomputable def zcx (n:Int) (mk:Nat) (Nc:Nat):AFrame:=⟨39,78,(tX (tX tZ (tY (.ptr Nc 0 0))) (tX (tX (tX (tX (tY (.ptr mk 0 0)) tZ) tZ) tZ) (tX (tX (tX (tY (.int .i64 (IntKind.i64.wrap (n - (1:Int))))) tZ) tZ) tZ))),   [.ops (rg P 39 [1,1,1,1,0,1,0,1,0,0]).toList ((rg P 39 [1,1,1,1,0,1,0,1,0,0]).toList.drop 3),.code (cd P 39 [1,1,1,1,0,1,0,1,0,1]),.inBlock 0,.code (cd P (39:FuncId) [1,1,1,1,1])],[],.run,CallKind.normal,none⟩
noncomputable def zbW (n:Int) (mk:Nat):AFrame:=⟨39,78,(tW (tY (.int .i64 n)) (.ptr mk 0 0) (tX (tX (tX (tX tZ (tY (.int .i64 (IntKind.i64.wrap (n - (1:Int)))))) tZ) tZ) (tX tZ (tX tZ (tX (tY (.ptr mk 0 0)) tZ))))),   [.ops (rg P 39 [1,1,1,1,0,1,0,1,1,1,0,0]).toList ((rg P 39 [1,1,1,1,0,1,0,1,1,1,0,0]).toList.drop 3),.code (cd P 39 [1,1,1,1,0,1,0,1,1,1,0,1]),.inBlock 0,.code (cd P (39:FuncId) [1,1,1,1,1])],[],.run,CallKind.normal,none⟩
noncomputable def zaf (n:Int) (mk:Nat):AFrame:=⟨39,78,(tW (tW (tX (tX (tX (tX (tY (.int .i64 (IntKind.i64.wrap (n - (1:Int))))) tZ) tZ) tZ) tZ) (.int .i64 n) (tX tZ (tX tZ (tX tZ (tY (.ptr mk 0 0)))))) (.ptr mk 0 0) tZ),   [.ops (rg P 39 [1,1,1,1,0,1,0,1,1,1,1,1,0,0]).toList ((rg P 39 [1,1,1,1,0,1,0,1,1,1,1,1,0,0]).toList.drop 3),.code (cd P 39 [1,1,1,1,0,1,0,1,1,1,1,1,0,1]),.inBlock 0,.code (cd P (39:FuncId) [1,1,1,1,1])],[],.run,CallKind.normal,none⟩
noncomputable def j0 (mk:Nat):AFrame:=⟨39,78,(tX tZ (tX (tX tZ (tX tZ (tX (tX (tY (.ptr mk 0 0)) tZ) tZ))) tZ)),   [.ops (rg P 39 [1,1,1,1,1,0]).toList ((rg P 39 [1,1,1,1,1,0]).toList.drop 1),.code (cd P 78 [1,1,0,0,1,0,1])],[],.run,CallKind.normal,none⟩
noncomputable def kB (prq1:AV) (s1:AV):AFrame:=⟨39,78,(tX (tX (tX (tX tZ (tX (tY prq1) tZ)) tZ) tZ) (tX tZ (tX tZ (tX (tX (tY s1) tZ) tZ)))),   [.ops (rg P 39 [1,1,1,1,0,1,0,1,0,1,0]).toList ((rg P 39 [1,1,1,1,0,1,0,1,0,1,0]).toList.drop 4),.code (cd P 79 [1,1,1,1]),.inBlock 0,.code (cd P (39:FuncId) [1,1,1,1,1])],[],.run,CallKind.normal,none⟩
noncomputable def vC (n:Int) (mk:Nat) (prq1:AV):AFrame:=⟨39,78,(tX (tX (tX tZ (tX (tX tZ (tY (.ptr mk 0 0))) tZ)) (tX tZ (tX (tX tZ (tY (.int .i64 (IntKind.i64.wrap (n - (1:Int)))))) tZ))) (tX tZ (tX (tX (tX tZ (tY prq1)) tZ) tZ))),   [.ops (rg P 39 [1,1,1,1,0,1,0,1,1,1,0,1,0]).toList ((rg P 39 [1,1,1,1,0,1,0,1,1,1,0,1,0]).toList.drop 4),.code (cd P 79 [1,1,1,1]),.inBlock 0,.code (cd P (39:FuncId) [1,1,1,1,1])],[],.run,CallKind.normal,none⟩
noncomputable def wJ (n:Int) (mk:Nat) (prq1:AV):AFrame:=⟨39,78,(tX (tX tZ (tX (tX (tX (tX (tY prq1) tZ) tZ) tZ) tZ)) (tX (tX tZ (tX (tX (tX (tY (.int .i64 (IntKind.i64.wrap (n - (1:Int))))) tZ) tZ) tZ)) (tX (tX (tX (tX (tY (.ptr mk 0 0)) tZ) tZ) tZ) tZ))),   [.ops (rg P 39 [1,1,1,1,0,1,0,1,1,1,1,1,0,1,0]).toList ((rg P 39 [1,1,1,1,0,1,0,1,1,1,1,1,0,1,0]).toList.drop 4),.code (cd P 79 [1,1,1,1]),.inBlock 0,.code (cd P (39:FuncId) [1,1,1,1,1])],[],.run,CallKind.normal,none⟩
noncomputable def wk (crq2:Int) (prq2:AV):AFrame:=⟨39,78,(tX (tX tZ (tX (tX tZ (tX (tY prq2) tZ)) tZ)) (tX tZ (tX (tX tZ (tX (tY (.int .i64 crq2)) tZ)) tZ))),   [.ops (rg P (39:FuncId) [1,1,1,1,0,1,0,1,0,1,0]).toList ((rg P (39:FuncId) [1,1,1,1,0,1,0,1,0,1,0]).toList.drop 7),.code (cd P (79:FuncId) [1,1,1,1]),.inBlock 0,.code (cd P (39:FuncId) [1,1,1,1,1])],[],.run,CallKind.normal,none⟩
noncomputable def qg (prq1:AV) (prq2:AV):AFrame:=⟨39,78,(tX tZ (tX tZ (tX (tX (tX tZ (tY prq1)) tZ) (tX (tX tZ (tY prq2)) tZ)))),   [.ops (rg P (39:FuncId) [1,1,1,1,0,1,0,1,1,1,0,1,0]).toList ((rg P (39:FuncId) [1,1,1,1,0,1,0,1,1,1,0,1,0]).toList.drop 5),.code (cd P (79:FuncId) [1,1,1,1]),.inBlock 0,.code (cd P (39:FuncId) [1,1,1,1,1])],[],.run,CallKind.normal,none⟩
noncomputable def y4 (s1:AV):AFrame:=⟨39,78,(tX (tX (tX (tX tZ (tX (tX (tY s1) tZ) tZ)) tZ) tZ) tZ),   [.ops (rg P (39:FuncId) [1,1,1,1,0,1,0,1,1,1,1,1,0,1,0]).toList ((rg P (39:FuncId) [1,1,1,1,0,1,0,1,1,1,1,1,0,1,0]).toList.drop 7),.code (cd P (79:FuncId) [1,1,1,1]),.inBlock 0,.code (cd P (39:FuncId) [1,1,1,1,1])],[],.run,CallKind.normal,none⟩
noncomputable def yt (crq3:Int) (prq3:AV):AFrame:=⟨39,78,(tX (tX tZ (tX (tX tZ (tX tZ (tY (.int .i64 crq3)))) tZ)) (tX (tX (tX tZ (tX tZ (tY prq3))) tZ) tZ)),   [.ops (rg P (39:FuncId) [1,1,1,1,0,1,0,1,1,1,0,1,0]).toList ((rg P (39:FuncId) [1,1,1,1,0,1,0,1,1,1,0,1,0]).toList.drop 8),.code (cd P (79:FuncId) [1,1,1,1]),.inBlock 0,.code (cd P (39:FuncId) [1,1,1,1,1])],[],.run,CallKind.normal,none⟩
noncomputable def yd (crq3:Int) (prq3:AV):AFrame:=⟨39,78,(tX (tX tZ (tX (tX tZ (tX (tX (tY prq3) tZ) tZ)) tZ)) (tX tZ (tX (tX tZ (tX (tX (tY (.int .i64 crq3)) tZ) tZ)) tZ))),   [.ops (rg P (39:FuncId) [1,1,1,1,0,1,0,1,1,1,1,1,0,1,0]).toList ((rg P (39:FuncId) [1,1,1,1,0,1,0,1,1,1,1,1,0,1,0]).toList.drop 10),.code (cd P (79:FuncId) [1,1,1,1]),.inBlock 0,.code (cd P (39:FuncId) [1,1,1,1,1])],[],.run,CallKind.normal,none⟩
section
variable {R:AV→AHeap→Prop} {keep N mk Nc:Nat} {f0:FuncId} {rest:List AFrame} {O:T AObj} {e n crq0 j nn crq2 crq3:Int} {s1 sl2 prq0 prq1 prq2 s1c prq3 prq4:AV} {G:T (T AV)} {K:AM→Prop} {td:List AItem}
theorem t_orr:((((e != (0:Int)))=true→(∃ (O1:T AObj),(T.set ((some (.cells (tW (tW (tY (.nils 0 0)) (.str []) tZ) (.int .i64 2) (tW (tY .nilp) (.nils 0 0) tZ)) 5 44 0 0 1 0 false .leaf))) (O) (N)=O1)∧K (AM.mk (RF 80 10 (tX tZ (tX (tY (.ptr N 0 0)) tZ)) [.code (cd P 80 [1,0,1,0,1]),.code (cd P 80 [1,1])]) rest ⟨O1,N+1,G⟩)))∧(((e != (0:Int)))=false→(K (AM.mk (RF 80 10 (tX tZ (tX (tY s1) tZ)) [.code (cd P 80 [1,0,1,0,1])]) rest ⟨O,N,G⟩))))=OT f0 R keep K (.seq [.run 10] (.fork 6 (.ex fun O1:T AObj=>(.seq [.run 4,.hop (.nilp) O1,.run 3,.keep [4]] .fin)) (.seq [.run 8,.keep [4]] .fin))) ((AM.mk (enF 80 [s1,.int .i64 e]) rest ⟨O,N,G⟩)):=by kernel_rfl
theorem t_som:(K (AM.mk (enF 73 [.ptr mk 0 0,.int .i64 4]) ((Fsom n mk)::rest) ⟨O,N,G⟩))=OT f0 R keep K (.seq [.run 12,.keep [0,1,5,7],.run 1] .fin) ((AM.mk (enF 79 [.ptr mk 0 0,.int .i64 n]) rest ⟨O,N,G⟩)):=by kernel_rfl
theorem zmo:(K (Wsom n crq0 mk (.nils 0 0) rest O N G))=OT f0 R keep K (.seq [.run 5,.keep [0,1,5,6]] .fin) ((AM.mk (RF 73 30 (tX tZ (tX (tY (.int .i64 crq0)) tZ)) td) ((Fsom n mk)::rest) ⟨O,N,G⟩)):=by kernel_rfl
theorem zm9:(((decide (j > (0:Int)))=true→(K (AM.mk (enF 39 [.ptr mk 0 0,.int .i64 n]) ((znF n j mk sl2)::rest) ⟨O,N,G⟩)))∧((decide (j > (0:Int)))=false→(K (AM.mk (RF 79 20 (tX tZ (tX (tY sl2) tZ)) [.code (cd P 79 [1,1,1,1])]) rest ⟨O,N,G⟩))))=OT f0 R keep K (.seq [.run 6] (.fork 10 (.seq [.run 8,.keep [0,1,6,13,14,15],.run 1] .fin) (.seq [.run 8,.keep [4]] .fin))) ((Wsom n j mk sl2 rest O N G)):=by kernel_rfl
theorem ziI:(∃ (O1:T AObj) (s1:AV) (O2:T AObj) (N1:Nat),(zd P (⟨O,N,G⟩) (33) (1) ([(0,prq0)])=(some (.slc N 0 0 1 1,⟨O1,N+1,G⟩)))∧(zf P (⟨O1,N+1,G⟩) (Builtin.append) ((some 33)) ((some 33)) ([sl2,.slc N 0 0 1 1])=(some (.val s1 ⟨O2,N1,G⟩)))∧K (Wsom n (IntKind.i64.wrap (j - (1:Int))) mk s1 rest O2 N1 G))=OT f0 R keep K (.ex fun O1:T AObj=>(.ex fun s1:AV=>(.ex fun O2:T AObj=>(.ex fun N1:Nat=>(.seq [.run 1,.hopn (.slc N 0 0 1 1) O1 (N+1),.hopn (s1) O2 (N1),.run 9,.keep [0,1,5,6]] .fin))))) ((AM.mk (RF 39 78 (tX tZ (tX (tY prq0) tZ)) td) ((znF n j mk sl2)::rest) ⟨O,N,G⟩)):=by kernel_rfl
theorem znd:(∃ (O1:T AObj),(lC O N G mk 1 (.int .i64 nn))∧(zc (⟨O,N,G⟩) (mk) (0) (1) ([.int .i64 (IntKind.i64.wrap (nn+(1:Int)))])=(some ⟨O1,N,G⟩))∧((decide (n<(1:Int)))=true→(K (AM.mk (enF 78 [.ptr mk 0 0]) ((zrq mk)::rest) ⟨O1,N,G⟩)))∧((decide (n<(1:Int)))=false→((lC O1 N G mk 1 (.int .i64 (IntKind.i64.wrap (nn+(1:Int)))))∧((decide (IntKind.i64.wrap (nn+(1:Int)) > (60:Int)))=true→(K (AM.mk (enF 78 [.ptr mk 0 0]) ((zov mk)::rest) ⟨O1,N,G⟩)))∧((decide (IntKind.i64.wrap (nn+(1:Int)) > (60:Int)))=false→(∃ (O2:T AObj) (O3:T AObj),(T.set ((some (.cells (tW (tY (.str [])) (.str []) (tY (.str []))) 3 90 0 0 1 0 false .leaf))) (O1) (N)=O2)∧(zc (⟨O2,N+1,G⟩) (N) (0) (0) ([.str [UInt8.ofNat (97)],.str [UInt8.ofNat (98)],.str [UInt8.ofNat (99)]])=(some ⟨O3,N+1,G⟩))∧K (AM.mk (enF 73 [.ptr mk 0 0,.int .i64 5]) ((znh N n mk)::rest) ⟨O3,N+1,G⟩))))))=OT f0 R keep K (.ex fun O1:T AObj=>(.seq [.run 9,.hop (.int .i64 nn) O,.run 3,.hop (.nilp) O1,.run 7] (.fork 18 (.seq [.run 11,.keep [25],.run 1] .fin) (.seq [.run 3,.hop (.int .i64 (IntKind.i64.wrap (nn+(1:Int)))) O1,.run 3] (.fork 24 (.seq [.run 4,.keep [25],.run 1] .fin) (.ex fun O2:T AObj=>(.ex fun O3:T AObj=>(.seq [.run 5,.hop (.nilp) O2,.hop (.nilp) O3,.run 5,.keep [0,1,5,28],.run 1] .fin)))))))) ((AM.mk (enF 39 [.ptr mk 0 0,.int .i64 n]) rest ⟨O,N,G⟩)):=by kernel_rfl
theorem zj7:(K (AM.mk (RF 39 78 (tX tZ (tX (tY prq0) tZ)) [.code (cd P (39:FuncId) [1,1,0,1,0,1]),.code (cd P (39:FuncId) [1,1,1])]) rest ⟨O,N,G⟩))=OT f0 R keep K (.seq [.run 4,.keep [4]] .fin) ((AM.mk (RF 78 32 (tX tZ (tY prq0)) td) ((zrq mk)::rest) ⟨O,N,G⟩)):=by kernel_rfl
theorem zji:(K (AM.mk (RF 39 78 (tX tZ (tX (tY prq0) tZ)) [.code (cd P (39:FuncId) [1,1,0,1,0,1]),.code (cd P (39:FuncId) [1,1,1])]) rest ⟨O,N,G⟩))=OT f0 R keep K (.seq [.run 4,.keep [4]] .fin) ((AM.mk (RF 78 32 (tX tZ (tY prq0)) td) ((zov mk)::rest) ⟨O,N,G⟩)):=by kernel_rfl
theorem ziK:((((crq0==(1:Int)))=true→(K (AM.mk (enF 79 [.ptr mk 0 0,.int .i64 (IntKind.i64.wrap (n - (1:Int)))]) ((zcx n mk Nc)::rest) ⟨O,N,G⟩)))∧(((crq0==(1:Int)))=false→((((crq0==(2:Int)))=true→(K (AM.mk (enF 79 [.ptr mk 0 0,.int .i64 (IntKind.i64.wrap (n - (1:Int)))]) ((zbW n mk)::rest) ⟨O,N,G⟩)))∧(((crq0==(2:Int)))=false→((((crq0==(3:Int)))=true→(K (AM.mk (enF 79 [.ptr mk 0 0,.int .i64 (IntKind.i64.wrap (n - (1:Int)))]) ((zaf n mk)::rest) ⟨O,N,G⟩)))∧(((crq0==(3:Int)))=false→(K (AM.mk (enF 78 [.ptr mk 0 0]) ((j0 mk)::rest) ⟨O,N,G⟩))))))))=OT f0 R keep K (.seq [.run 8] (.fork 30 (.seq [.run 6,.keep [5,32,34],.run 1] .fin) (.seq [.run 6] (.fork 44 (.seq [.run 6,.keep [0,1,46,48],.run 1] .fin) (.seq [.run 6] (.fork 59 (.seq [.run 6,.keep [0,1,61,63],.run 1] .fin) (.seq [.run 6,.keep [76],.run 1] .fin))))))) ((AM.mk (RF 73 30 (tX tZ (tX (tY (.int .i64 crq0)) tZ)) td) ((znh Nc n mk)::rest) ⟨O,N,G⟩)):=by kernel_rfl
theorem zap:(K (AM.mk (RF 39 78 (tX tZ (tX (tY prq1) tZ)) [.code (cd P (78:FuncId) [1,1,0,0,1,0,1])]) rest ⟨O,N,G⟩))=OT f0 R keep K (.seq [.run 4,.keep [4]] .fin) ((AM.mk (RF 78 32 (tX tZ (tY prq1)) td) ((j0 mk)::rest) ⟨O,N,G⟩)):=by kernel_rfl
theorem zch:(∃ (z1:Int) (s1:AV),(lN O N G 33 prq1 z1)∧(xD P (⟨O,N,G⟩) (90) (.ptr Nc 0 0) (none) ((some z1)) (none)=(some s1))∧K (AM.mk (enF 23 [s1,prq1]) ((kB prq1 s1)::rest) ⟨O,N,G⟩))=OT f0 R keep K (.ex fun z1:Int=>(.ex fun s1:AV=>(.seq [.run 6,.hopn (.int .i64 z1) O (N),.hop (s1) O,.run 1,.keep [38,39],.run 1] .fin))) ((AM.mk (RF 79 20 (tX tZ (tX (tY prq1) tZ)) td) ((zcx n mk Nc)::rest) ⟨O,N,G⟩)):=by kernel_rfl
theorem js:(K (AM.mk (enF 80 [prq2,.int .i64 crq2]) ((wk crq2 prq2)::rest) ⟨O,N,G⟩))=OT f0 R keep K (.seq [.run 3,.keep [41,42],.run 1] .fin) ((AM.mk (RF 23 135 (tX (tX tZ (tY (.int .i64 crq2))) (tX (tY prq2) tZ)) td) ((kB prq1 s1c)::rest) ⟨O,N,G⟩)):=by kernel_rfl
theorem vk:(K (AM.mk (RF 39 78 (tX tZ (tX (tY prq3) tZ)) [.code (cd P (79:FuncId) [1,1,1,1]),.inBlock 0,.code (cd P (39:FuncId) [1,1,1,1,1])]) rest ⟨O,N,G⟩))=OT f0 R keep K (.seq [.run 4,.keep [4]] .fin) ((AM.mk (RF 80 10 (tX tZ (tX (tY prq3) tZ)) td) ((wk crq2 prq2)::rest) ⟨O,N,G⟩)):=by kernel_rfl
theorem zbr:(K (AM.mk (enF 39 [.ptr mk 0 0,.int .i64 (IntKind.i64.wrap (n - (1:Int)))]) ((vC n mk prq1)::rest) ⟨O,N,G⟩))=OT f0 R keep K (.seq [.run 9,.keep [50,51,53],.run 1] .fin) ((AM.mk (RF 79 20 (tX tZ (tX (tY prq1) tZ)) td) ((zbW n mk)::rest) ⟨O,N,G⟩)):=by kernel_rfl
theorem kI:(K (AM.mk (enF 28 [prq1,prq2]) ((qg prq1 prq2)::rest) ⟨O,N,G⟩))=OT f0 R keep K (.seq [.run 1,.keep [50,54],.run 1] .fin) ((AM.mk (RF 39 78 (tX tZ (tX (tY prq2) tZ)) td) ((vC n mk prq1)::rest) ⟨O,N,G⟩)):=by kernel_rfl
theorem wx:(K (AM.mk (enF 80 [prq3,.int .i64 crq3]) ((yt crq3 prq3)::rest) ⟨O,N,G⟩))=OT f0 R keep K (.seq [.run 3,.keep [56,57],.run 1] .fin) ((AM.mk (RF 28 31 (tX (tX tZ (tY (.int .i64 crq3))) (tX (tY prq3) tZ)) td) ((qg prq1 prq2)::rest) ⟨O,N,G⟩)):=by kernel_rfl
theorem qm:(K (AM.mk (RF 39 78 (tX tZ (tX (tY prq4) tZ)) [.code (cd P (79:FuncId) [1,1,1,1]),.inBlock 0,.code (cd P (39:FuncId) [1,1,1,1,1])]) rest ⟨O,N,G⟩))=OT f0 R keep K (.seq [.run 4,.keep [4]] .fin) ((AM.mk (RF 80 10 (tX tZ (tX (tY prq4) tZ)) td) ((yt crq3 prq3)::rest) ⟨O,N,G⟩)):=by kernel_rfl
theorem zao:(K (AM.mk (enF 39 [.ptr mk 0 0,.int .i64 (IntKind.i64.wrap (n - (1:Int)))]) ((wJ n mk prq1)::rest) ⟨O,N,G⟩))=OT f0 R keep K (.seq [.run 9,.keep [65,66,68],.run 1] .fin) ((AM.mk (RF 79 20 (tX tZ (tX (tY prq1) tZ)) td) ((zaf n mk)::rest) ⟨O,N,G⟩)):=by kernel_rfl
theorem vY:(∃ (O1:T AObj) (s1:AV) (O2:T AObj) (N1:Nat),(zd P (⟨O,N,G⟩) (33) (1) ([(0,prq2)])=(some (.slc N 0 0 1 1,⟨O1,N+1,G⟩)))∧(zf P (⟨O1,N+1,G⟩) (Builtin.append) ((some 33)) ((some 33)) ([prq1,.slc N 0 0 1 1])=(some (.val s1 ⟨O2,N1,G⟩)))∧K (AM.mk (enF 26 [s1]) ((y4 s1)::rest) ⟨O2,N1,G⟩))=OT f0 R keep K (.ex fun O1:T AObj=>(.ex fun s1:AV=>(.ex fun O2:T AObj=>(.ex fun N1:Nat=>(.seq [.run 1,.hopn (.slc N 0 0 1 1) O1 (N+1),.hopn (s1) O2 (N1),.keep [71],.run 1] .fin))))) ((AM.mk (RF 39 78 (tX tZ (tX (tY prq2) tZ)) td) ((wJ n mk prq1)::rest) ⟨O,N,G⟩)):=by kernel_rfl
theorem wp:(K (AM.mk (enF 80 [prq3,.int .i64 crq3]) ((yd crq3 prq3)::rest) ⟨O,N,G⟩))=OT f0 R keep K (.seq [.run 3,.keep [73,74],.run 1] .fin) ((AM.mk (RF 26 129 (tX (tX (tY (.int .i64 crq3)) tZ) (tY prq3)) td) ((y4 s1c)::rest) ⟨O,N,G⟩)):=by kernel_rfl
theorem y9:(K (AM.mk (RF 39 78 (tX tZ (tX (tY prq4) tZ)) [.code (cd P (79:FuncId) [1,1,1,1]),.inBlock 0,.code (cd P (39:FuncId) [1,1,1,1,1])]) rest ⟨O,N,G⟩))=OT f0 R keep K (.seq [.run 4,.keep [4]] .fin) ((AM.mk (RF 80 10 (tX tZ (tX (tY prq4) tZ)) td) ((yd crq3 prq3)::rest) ⟨O,N,G⟩)):=by kernel_rfl
end
variable {O O':T AObj} {N:Nat} {G:T (T AV)}
theorem ku {M:Ty→Prop}{A:Nat→Prop}{t:Ty}{p:Option Nat}{e:Int}(h0:M (.mk 2 [] [] [] .no))(ht:e=0→Tra O N A t p∧M t)(hA:∀ j,A j→j<N){keep:Nat}{f0:FuncId}{Q:AV→AHeap→Prop}{rest:List AFrame}
 (hK:∀ O' N' td t' p',Ext O N O' N'→Tra O' N' A t' p'→M t'→Goal P keep f0 Q (AM.mk (RF 80 10 (tX tZ (tX (tY (pv p')) tZ)) td) rest ⟨O',N',G⟩)):Goal P keep f0 Q (AM.mk (enF 80 [pv p,.int .i64 e]) rest ⟨O,N,G⟩):=by
 refine ot t_orr ⟨fun hc2=>?_,fun hc2=>?_⟩
 ·
  obtain ⟨O1v,e3,b3,f3⟩:=Obj.mk (c:=(tW (tW (tY (.nils 0 0)) (.str []) tZ) (.int .i64 2) (tW (tY .nilp) (.nils 0 0) tZ))) (el:=44) [(.int .i64 2),(.str []),(.nils 0 0),(.nils 0 0),.nilp] O N 5 rfl (fun u hu=>by rcases u with _ | _ | _ | _ | _ | u <;> first | rfl | omega)
  exact ⟨O1v,e3,hK O1v (N+1) _ _ (some N) (Ext.new f3) (Tra.node (ps:=[]) (q:=none) (by omega) (fun h=>by have:=hA _ h; omega) b3 SV.nil (fun h=>absurd rfl h) SV.nil (fun h=>absurd rfl h) rfl (by decide) (by decide) (fun j x p h=>by simp at h) Tra.nil) h0⟩
 ·
  obtain ⟨tr,m⟩:=ht (by simpa using hc2)
  exact hK O N _ t p Ext.refl tr m
def ONE (hi mk:Nat) (an:Bool) (d:Nat):Prop:=∀ {A:Nat→Prop} {xs:List UInt8} {nn:Int} {O:T AObj} {N:Nat} {G:T (T AV)} {keep:Nat} {f0:FuncId} {Q:AV→AHeap→Prop} {rest:List AFrame},MKo O hi mk xs nn an→mk<N→(∀ j,A j→j<N)→A mk →
 (∀ (O':T AObj) (N':Nat) (td:List AItem) (ys:List UInt8) (nn':Int) (t:Ty) (p:Option Nat),N≤N'→(∀ j,j<N→j≠mk→O'.get j=O.get j)→MKo O' hi mk ys nn' an→Tra O' N' A t p→MadeT an t→Goal P keep f0 Q (AM.mk (RF 39 78 (tX tZ (tX (tY (pv p)) tZ)) td) rest ⟨O',N',G⟩))→Goal P keep f0 Q (AM.mk (enF 39 [.ptr mk 0 0,.int .i64 ((d:Nat):Int)]) rest ⟨O,N,G⟩)
def SOME (hi mk:Nat) (an:Bool) (d:Nat):Prop:=∀ {A:Nat→Prop} {xs:List UInt8} {nn:Int} {O:T AObj} {N:Nat} {G:T (T AV)} {keep:Nat} {f0:FuncId} {Q:AV→AHeap→Prop} {rest:List AFrame},MKo O hi mk xs nn an→mk<N→(∀ j,A j→j<N)→A mk →
 (∀ (O':T AObj) (N':Nat) (td:List AItem) (ys:List UInt8) (nn':Int) (ts:List Ty) (ps:List (Option Nat)) (s:AV),N≤N'→(∀ j,j<N→j≠mk→O'.get j=O.get j)→MKo O' hi mk ys nn' an→GV O' 23 1 pE N N' ps s→ps.length=ts.length→ts.length≤3→(∀ (j:Nat) (x:Ty) (p:Option Nat),ts[j]?=some x→ps[j]?=some p→Tra O' N' (AvS A s) x p)→(∀ x∈ts,MadeT an x)→Goal P keep f0 Q (AM.mk (RF 79 20 (tX tZ (tX (tY s) tZ)) td) rest ⟨O',N',G⟩))→Goal P keep f0 Q (AM.mk (enF 79 [.ptr mk 0 0,.int .i64 ((d:Nat):Int)]) rest ⟨O,N,G⟩)
theorem zmj {hi mk:Nat}{an:Bool}(hmk:hi≤mk){d:Nat}(one:ONE hi mk an d):SOME hi mk an d:=by
 intro A xs nn O N G keep f0 Q rest hm hmN hA hAm hK
 refine ot t_som ?_
 refine qb hm hmk (n:=4) (by omega) fun O1 td c ys hl c0 c4 f1 m1=>?_
 refine ot zmo ?_
 have loop:∀ (k:Nat) (O2:T AObj) (N2:Nat) (zs:List UInt8) (n2:Int) (ts:List Ty) (ps:List (Option Nat)) (s:AV),N≤N2→(∀ j,j<N→j≠mk→O2.get j=O.get j)→MKo O2 hi mk zs n2 an→GV O2 23 1 pE N N2 ps s→ps.length=ts.length→ts.length+k≤3→(∀ (j:Nat) (x:Ty) (p:Option Nat),ts[j]?=some x→ps[j]?=some p→Tra O2 N2 (AvS A s) x p)→(∀ x∈ts,MadeT an x)→Goal P keep f0 Q (Wsom ((d:Nat):Int) ((k:Nat):Int) mk s rest O2 N2 G):=by
  intro k
  induction k with
  | zero =>
   intro O2 N2 zs n2 ts ps s hNN hO m2 gv hl h3 hr hmd
   refine ot zm9 (fkf (decide_eq_false (by omega)) ?_)
   exact hK O2 N2 _ zs n2 ts ps s hNN hO m2 gv hl (by omega) hr hmd
  | succ k ih =>
   intro O2 N2 zs n2 ts ps s hNN hO m2 gv hl h3 hr hmd
   refine ot zm9 (fkt (decide_eq_true (by omega)) ?_)
   refine one (A:=AvS A s) m2 (by omega) (fun j hj=>hj.elim (fun h=>by have:=hA j h; omega) fun h=>by have:=gv.sid_lt h.1; omega) (.inl hAm) fun O3 N3 td3 zs3 n3 t p hN3 hO3 m3 tx md=>?_
   have gv3:=gv.same (O':=O3) (fun hs=>hO3 _ (gv.sid_lt hs).2 (by have:=(gv.sid_lt hs).1; omega)) (Nat.le_refl _) hN3
   have hr3:=fun (j:Nat) (x:Ty) (p:Option Nat) a b=>(hr j x p a b).same (O':=O3) (fun i h1 h2=>hO3 i h1 (fun h=>h2 (.inl (h▸hAm)))) hN3
   obtain ⟨O4,s1,O5,N5,e1,e2,g5,n5,f5,r5⟩:=zlm gv3 (by omega) hl (by omega) hr3 tx G
   have nx:=ih O5 N5 zs3 n3 (ts++[t]) (ps++[p]) s1 (by omega) (fun j h1 h2=>(f5 j (by omega) (fun hs=>by have:=(gv.sid_lt hs).1; omega)).trans ((hO3 j (by omega) h2).trans (hO j h1 h2))) (m3.same (fun j hj=>f5 j (by omega) (fun hs=>by have:=(gv.sid_lt hs).1; omega)) (f5 mk (by omega) (fun hs=>by have:=(gv.sid_lt hs).1; omega))) g5 (by rw [List.length_append,List.length_append,hl]; rfl) (by rw [List.length_append]; simp only [List.length_cons,List.length_nil]; omega) r5 (fun x hx=>by rw [List.mem_append,List.mem_singleton] at hx; exact hx.elim (hmd x) fun h=>h▸md)
   rw [show ((k:Nat):Int)=IntKind.i64.wrap (((k+1:Nat):Int) - (1:Int)) by rw [IntKind.wrap_i64]; omega] at nx
   exact ot ziI ⟨_,_,_,_,e1,e2,nx⟩
 have:=loop c.toNat O1 N ys nn [] [] (.nils 0 0) (Nat.le_refl _) (fun j _ h2=>f1 j h2) m1 GV.nil rfl (by simp only [List.length_nil]; omega) (fun j x p h=>by simp at h) (fun x h=>by cases h)
 rw [show ((c.toNat:Nat):Int)=c by omega] at this
 exact this
theorem MKo.mk {hi mk:Nat}{an:Bool}{xs:List UInt8}{n2:Int}{sl:AV}(sv:SVe O hi xs sl)(hmk:hi≤mk)(f:Frm O O' mk)(ob:Obj O' mk [sl,.int .i64 n2,.bool an]):MKo O' hi mk xs n2 an :=
 ⟨sl,ob,sv.keep (fun j hj=>f j (by omega))⟩
theorem zgf {hi mk:Nat}{an:Bool}(hmk:hi≤mk)(d:Nat)(hd:d≤1000):ONE hi mk an d:=by
 induction d with
 | zero =>
  intro A xs nn O N G keep f0 Q rest hm hmN hA hAm hK
  obtain ⟨sl,ob,sv⟩:=hm
  obtain ⟨O1v,e9,b9,f9⟩:=ob.store 1 [.int .i64 (IntKind.i64.wrap (nn+(1:Int)))] N G (Nat.le_of_ble_eq_true rfl) rfl
  refine ot (znd (nn:=nn)) ⟨O1v,ob.ld 1 rfl,e9,fkt ((by decide)) ?_⟩
  have m2:=MKo.mk sv hmk f9 b9
  refine zgJ m2 hmk hmN (A:=A) hA fun O3 N3 td3 ys t p hl3 hN3 hO3 m3 tx md=>?_
  exact ot zj7 (hK O3 N3 _ ys _ t p hN3 (fun j h1 h2=>(hO3 j h1 h2).trans (f9 j h2)) m3 tx md)
 | succ d ih =>
  have one:ONE hi mk an d:=ih (by omega)
  have sme:SOME hi mk an d:=zmj hmk one
  have w1:IntKind.i64.wrap (((d+1:Nat):Int) - (1:Int))=((d:Nat):Int):=by rw [IntKind.wrap_i64]; omega
  intro A xs nn O N G keep f0 Q rest hm hmN hA hAm hK
  obtain ⟨sl,ob,sv⟩:=hm
  obtain ⟨O1v,e11,b11,f11⟩:=ob.store 1 [.int .i64 (IntKind.i64.wrap (nn+(1:Int)))] N G (Nat.le_of_ble_eq_true rfl) rfl
  refine ot (znd (nn:=nn)) ⟨O1v,ob.ld 1 rfl,e11,fkf ((decide_eq_false (by omega))) ?_⟩
  refine ⟨b11.ld 1 rfl,fun hc12=>?_,fun hc12=>?_⟩
  ·
   have m2:=MKo.mk sv hmk f11 b11
   refine zgJ m2 hmk hmN (A:=A) hA fun O3 N3 td3 ys t p hl3 hN3 hO3 m3 tx md=>?_
   exact ot zji (hK O3 N3 _ ys _ t p hN3 (fun j h1 h2=>(hO3 j h1 h2).trans (f11 j h2)) m3 tx md)
  ·
   obtain ⟨O2v,e13,b13,f13⟩:=Obj.mk (c:=(tW (tY (.str [])) (.str []) (tY (.str [])))) (el:=90) [(.str []),(.str []),(.str [])] O1v N 3 rfl (fun u hu=>by rcases u with _ | _ | _ | u <;> first | rfl | omega)
   have b14:=b11.same (f13 _ (by omega))
   obtain ⟨O3v,e15,b15,f15⟩:=b13.store 0 [.str [UInt8.ofNat (97)],.str [UInt8.ofNat (98)],.str [UInt8.ofNat (99)]] (N+1) G (Nat.le_of_ble_eq_true rfl) rfl
   have b16:=b14.same (f15 _ (by omega))
   refine ⟨O2v,O3v,e13,e15,?_⟩
   have lo3:∀ j,j<N→j≠mk→O3v.get j=O.get j:=fun j h1 h2=>(f15 j (by omega)).trans ((f13 j (by omega)).trans (f11 j h2))
   have m2:MKo O3v hi mk xs _ an:=MKo.same (MKo.mk sv hmk f11 (by assumption)) (fun j hj=>(f15 j (by omega)).trans (f13 j (by omega))) ((f15 mk (by omega)).trans (f13 mk (by omega)))
   have obN:=b15
   refine qb m2 hmk (n:=5) (by omega) fun O4 td4 c ys hl c0 c5 f4 m4=>?_
   have obN4:=obN.same (f4 N (by omega))
   have lo4:∀ j,j<N→j≠mk→O4.get j=O.get j:=fun j h1 h2=>(f4 j h2).trans (lo3 j h1 h2)
   have hA1:∀ j,A j→j<N+1:=fun j h=>by have:=hA j h; omega
   refine ot ziK ⟨fun hc18=>?_,fun hc18=>?_⟩
   ·
    rw [w1]
    refine sme (A:=fun j=>A j∨j=N) m4 (by omega) (fun j hj=>hj.elim (fun h=>by have:=hA j h; omega) fun h=>by omega) (.inl hAm) fun O5 N5 td5 ys5 n5 ts ps s hN5 hO5 m5 g5 hl5 h35 hr5 hmd5=>?_
    have obN5:=obN4.same (hO5 N (by omega) (by omega))
    have lo5:∀ j,j<N→j≠mk→O5.get j=O.get j:=fun j h1 h2=>(hO5 j (by omega) h2).trans (lo4 j h1 h2)
    have hrA:∀ (j:Nat) (x:Ty) (p:Option Nat),ts[j]?=some x→ps[j]?=some p→Tra O5 N5 A x p:=fun j x p a b=>(hr5 j x p a b).imp fun j _ h=>.inl (.inl h)
    obtain ⟨sn,es,vn⟩:=zmh obN5 (hi:=N5) (n:=ts.length) (by omega) h35 N5 G
    refine ot zch ⟨_,_,(g5.sv pEn).lenE pSl hl5 _ _,es,?_⟩
    refine zgg vn ((g5.sv pEn).keep (fun _ _ _=>rfl) (Nat.zero_le _) (Nat.le_refl _)) hl5 (by omega) hrA (Nat.le_refl _) (fun j h=>by have:=hA j h; omega) fun O8 N8 td8 p8 ex8 tx8=>?_
    have nn8:=ex8.1
    refine ot js ?_
    have lo8:∀ j,j<N→j≠mk→O8.get j=O.get j:=fun j h1 h2=>(ex8.2 j (by omega)).trans (lo5 j h1 h2)
    have m8:=m5.same (fun j hj=>ex8.2 j (by omega)) (ex8.2 mk (by omega))
    refine ku (M:=MadeT an) (MadeT.leaf (by decide) (by decide) (fun _=>by decide)) (fun h=>⟨tx8,zdH h (fun ha x hx=>(by obtain ⟨_,_,_,_,_,_,_,_,_,_,q⟩:=hmd5 x hx; exact q ha))⟩) (fun j h=>by have:=hA j h; omega) fun O9 N9 td9 t9 p9 ex9 tx9 md9=>?_
    have nn9:=ex9.1
    exact ot vk (hK O9 N9 _ _ _ t9 p9 (by omega) (fun j h1 h2=>(ex9.2 j (by omega)).trans (lo8 j h1 h2)) (m8.same (fun j hj=>ex9.2 j (by omega)) (ex9.2 mk (by omega))) tx9 md9)
   ·
    refine ⟨fun hc19=>?_,fun hc19=>?_⟩
    ·
     rw [w1]
     refine sme (A:=fun j=>A j∨j=N) m4 (by omega) (fun j hj=>hj.elim (fun h=>by have:=hA j h; omega) fun h=>by omega) (.inl hAm) fun O5 N5 td5 ys5 n5 ts ps s hN5 hO5 m5 g5 hl5 h35 hr5 hmd5=>?_
     have obN5:=obN4.same (hO5 N (by omega) (by omega))
     have lo5:∀ j,j<N→j≠mk→O5.get j=O.get j:=fun j h1 h2=>(hO5 j (by omega) h2).trans (lo4 j h1 h2)
     have hrA:∀ (j:Nat) (x:Ty) (p:Option Nat),ts[j]?=some x→ps[j]?=some p→Tra O5 N5 A x p:=fun j x p a b=>(hr5 j x p a b).imp fun j _ h=>.inl (.inl h)
     refine ot zbr ?_
     rw [w1]
     refine one (A:=AvS A s) m5 (by omega) (fun j hj=>hj.elim (fun h=>by have:=hA j h; omega) fun h=>by have:=g5.sid_lt h.1; omega) (.inl hAm) fun O6 N6 td6 ys6 n6 r q hN6 hO6 m6 tr6 md6=>?_
     have g6:=g5.same (O':=O6) (fun hs=>hO6 _ (g5.sid_lt hs).2 (by have:=(g5.sid_lt hs).1; omega)) (Nat.le_refl _) hN6
     have lo6:∀ j,j<N→j≠mk→O6.get j=O.get j:=fun j h1 h2=>(hO6 j (by omega) h2).trans (lo5 j h1 h2)
     have hr6:=fun (j:Nat) (x:Ty) (p:Option Nat) a b=>(hr5 j x p a b).same (O':=O6) (fun i h1 h2=>hO6 i h1 (fun h=>h2 (.inl (.inl (h▸hAm))))) hN6
     refine ot kI ?_
     refine zg1 (mk:=A) (an:=an) ((g6.sv pEn).keep (fun _ _ _=>rfl) (Nat.zero_le _) (Nat.le_refl _)) hl5 (by omega) (fun j x p a b=>(hr6 j x p a b).imp fun j _ h=>.inl (.inl h)) (tr6.imp fun j _ h=>.inl h) (fun ha=>⟨fun x hx=>(by obtain ⟨_,_,_,_,_,_,_,_,_,_,q⟩:=hmd5 x hx; exact q ha),(by obtain ⟨_,_,_,_,_,_,_,_,_,_,q⟩:=md6; exact q ha)⟩) (Nat.le_refl _) (fun j h=>by have:=hA j h; omega) fun O8 N8 td8 t8 p8 e8 ex8 h8=>?_
     have nn8:=ex8.1
     refine ot wx ?_
     have lo8:∀ j,j<N→j≠mk→O8.get j=O.get j:=fun j h1 h2=>(ex8.2 j (by omega)).trans (lo6 j h1 h2)
     have m8:=m6.same (fun j hj=>ex8.2 j (by omega)) (ex8.2 mk (by omega))
     refine ku (M:=MadeT an) (MadeT.leaf (by decide) (by decide) (fun _=>by decide)) (fun h=>⟨(h8 h).1,(h8 h).2⟩) (fun j h=>by have:=hA j h; omega) fun O9 N9 td9 t9 p9 ex9 tx9 md9=>?_
     have nn9:=ex9.1
     exact ot qm (hK O9 N9 _ _ _ t9 p9 (by omega) (fun j h1 h2=>(ex9.2 j (by omega)).trans (lo8 j h1 h2)) (m8.same (fun j hj=>ex9.2 j (by omega)) (ex9.2 mk (by omega))) tx9 md9)
    ·
     refine ⟨fun hc20=>?_,fun hc20=>?_⟩
     ·
      rw [w1]
      refine sme (A:=fun j=>A j∨j=N) m4 (by omega) (fun j hj=>hj.elim (fun h=>by have:=hA j h; omega) fun h=>by omega) (.inl hAm) fun O5 N5 td5 ys5 n5 ts ps s hN5 hO5 m5 g5 hl5 h35 hr5 hmd5=>?_
      have obN5:=obN4.same (hO5 N (by omega) (by omega))
      have lo5:∀ j,j<N→j≠mk→O5.get j=O.get j:=fun j h1 h2=>(hO5 j (by omega) h2).trans (lo4 j h1 h2)
      have hrA:∀ (j:Nat) (x:Ty) (p:Option Nat),ts[j]?=some x→ps[j]?=some p→Tra O5 N5 A x p:=fun j x p a b=>(hr5 j x p a b).imp fun j _ h=>.inl (.inl h)
      refine ot zao ?_
      rw [w1]
      refine one (A:=AvS A s) m5 (by omega) (fun j hj=>hj.elim (fun h=>by have:=hA j h; omega) fun h=>by have:=g5.sid_lt h.1; omega) (.inl hAm) fun O6 N6 td6 ys6 n6 r q hN6 hO6 m6 tr6 md6=>?_
      have g6:=g5.same (O':=O6) (fun hs=>hO6 _ (g5.sid_lt hs).2 (by have:=(g5.sid_lt hs).1; omega)) (Nat.le_refl _) hN6
      have lo6:∀ j,j<N→j≠mk→O6.get j=O.get j:=fun j h1 h2=>(hO6 j (by omega) h2).trans (lo5 j h1 h2)
      have hr6:=fun (j:Nat) (x:Ty) (p:Option Nat) a b=>(hr5 j x p a b).same (O':=O6) (fun i h1 h2=>hO6 i h1 (fun h=>h2 (.inl (.inl (h▸hAm))))) hN6
      obtain ⟨O7,s1,OB,N7,e1,e2,g7,n7,f7,r7⟩:=zlm (A:=A) g6 (by omega) hl5 (by omega) (fun j x p a b=>(hr6 j x p a b).imp fun j _ h=>h.elim (fun h=>.inl (.inl h)) .inr) tr6 G
      have lo7:∀ j,j<N→j≠mk→OB.get j=O.get j:=fun j h1 h2=>(f7 j (by omega) (fun hs=>by have:=(g6.sid_lt hs).1; omega)).trans (lo6 j h1 h2)
      have m7:=m6.same (O':=OB) (fun j hj=>f7 j (by omega) (fun hs=>by have:=(g6.sid_lt hs).1; omega)) (f7 mk (by omega) (fun hs=>by have:=(g6.sid_lt hs).1; omega))
      refine ot vY ⟨_,_,_,_,e1,e2,?_⟩
      refine zg2 (mk:=A) ((g7.sv pEn).keep (fun _ _ _=>rfl) (Nat.zero_le _) (Nat.le_refl _)) (by rw [List.length_append,List.length_append,hl5]; rfl) (by rw [List.length_append]; simp only [List.length_cons,List.length_nil]; omega) (fun j x p a b=>(r7 j x p a b).imp fun j _ h=>.inl h) (Nat.le_refl _) (fun j h=>by have:=hA j h; omega) fun O8 N8 td8 p8 ex8 tx8=>?_
      have nn8:=ex8.1
      refine ot wp ?_
      have lo8:∀ j,j<N→j≠mk→O8.get j=O.get j:=fun j h1 h2=>(ex8.2 j (by omega)).trans (lo7 j h1 h2)
      have m8:=m7.same (fun j hj=>ex8.2 j (by omega)) (ex8.2 mk (by omega))
      refine ku (M:=MadeT an) (MadeT.leaf (by decide) (by decide) (fun _=>by decide)) (fun h=>⟨tx8,zdc h (fun ha x hx=>by rw [List.mem_append,List.mem_singleton] at hx; exact hx.elim (fun hx=>(by obtain ⟨_,_,_,_,_,_,_,_,_,_,q⟩:=hmd5 x hx; exact q ha)) (fun hx=>hx▸(by obtain ⟨_,_,_,_,_,_,_,_,_,_,q⟩:=md6; exact q ha)))⟩) (fun j h=>by have:=hA j h; omega) fun O9 N9 td9 t9 p9 ex9 tx9 md9=>?_
      have nn9:=ex9.1
      exact ot y9 (hK O9 N9 _ _ _ t9 p9 (by omega) (fun j h1 h2=>(ex9.2 j (by omega)).trans (lo8 j h1 h2)) (m8.same (fun j hj=>ex9.2 j (by omega)) (ex9.2 mk (by omega))) tx9 md9)
     ·
      refine zgJ m4 hmk (by omega) (A:=A) hA1 fun O8 N8 td8 ys8 t p hl8 hN8 hO8 m8 tx md=>?_
      exact ot zap (hK O8 N8 _ ys8 _ t p (by omega) (fun j h1 h2=>(hO8 j (by omega) h2).trans (lo4 j h1 h2)) m8 tx md)
end Go.Proofs.Ytcdigdplhlgcaaa.gx
end
section
set_option maxRecDepth 100000
set_option linter.unusedVariables false
set_option linter.unusedSectionVars false
set_option linter.unusedSimpArgs false
namespace Go.Proofs.Ytcdigdplhlgcaaa.gx
open Go Ev tp
section
variable (q:Nat) (crq0 k2:Int) (sa2 rp2:AV) (n j j2:Int) (mk:Nat) (prq0:AV) (crq1:Int) (prq1:AV) (z2:Int) (s1 s2 sn2 sl sl2:AV) (rest:List AFrame) (O:T AObj) (N:Nat) (G:T (T AV))
noncomputable def zp3:AM:=⟨⟨81,46,(tW (tW (tX (tY (.int .i64 j)) tZ) (.int .i64 n) (tY sl)) (.ptr q 0 0) (tX tZ (tY sl2))),   [.code (cd P 81 [1,1,1,0,1,0,0]),.inLoop (cd P 81 [1,1,1,0,1,0,0]),.inBlock 0,.code (cd P 81 [1,1,1,1])],[],.run,CallKind.normal,none⟩,rest,⟨O,N,G⟩⟩
noncomputable def znr:AFrame:=⟨81,46,(tX (tX tZ (tX (tX tZ (tX (tY sl2) tZ)) tZ)) (tX (tX (tX tZ (tX (tY sl) tZ)) tZ) tZ)),   [.ops (rg P 81 [1,1,1,1,0]).toList ((rg P 81 [1,1,1,1,0]).toList.drop 2),.code (cd P 81 [1,1,1,1,1])],[],.run,CallKind.normal,none⟩
noncomputable def zfv:AFrame:=⟨81,46,(tX (tX (tX tZ (tX tZ (tX (tY prq0) tZ))) tZ) (tX (tX tZ (tX tZ (tX (tY (.int .i64 crq0)) tZ))) tZ)),   [.ops (rg P (81:FuncId) [1,1,1,1,0]).toList ((rg P (81:FuncId) [1,1,1,1,0]).toList.drop 5),.code (cd P (81:FuncId) [1,1,1,1,1])],[],.run,CallKind.normal,none⟩
noncomputable def Fnea:AFrame:=⟨40,133,(tW (tY (.ptr q 0 0)) (.ptr mk 0 0) (tW tZ (.int .i64 n) (tX (tY (.ptr mk 0 0)) tZ))),   [.ops (rg P 40 [1,0]).toList ((rg P 40 [1,0]).toList.drop 1),.code (cd P 40 [1,1])],[],.run,CallKind.normal,none⟩
noncomputable def zhl:AFrame:=⟨40,133,(tW (tY (.ptr q 0 0)) (.ptr mk 0 0) (tW tZ (.int .i64 n) (tX tZ (tY (.ptr mk 0 0))))),   [.ops (rg P 40 [1,1,0,1,0]).toList ((rg P 40 [1,1,0,1,0]).toList.drop 1),.code (cd P 40 [1,1,1])],[],.run,CallKind.normal,none⟩
noncomputable def Wneb:AM:=⟨⟨40,133,(tW (tW (tX (tY (.int .i64 j)) tZ) (.ptr q 0 0) tZ) (.ptr mk 0 0) (tY (.int .i64 n))),   [.code (cd P 40 [1,1,1])],[],.run,CallKind.normal,none⟩,rest,⟨O,N,G⟩⟩
noncomputable def zqK:AFrame:=⟨40,133,(tX (tX (tX tZ (tX (tY (.ptr mk 0 0)) tZ)) tZ) (tX tZ (tX (tX (tY (.ptr q 0 0)) tZ) tZ))),   [.ops (rg P 40 [1,1,1,0,1,0,0]).toList ((rg P 40 [1,1,1,0,1,0,0]).toList.drop 2),.code (cd P 40 [1,1,1,0,1,0,1]),.code (cd P 40 [1,1,1,1])],[],.run,CallKind.normal,none⟩
noncomputable def zne:AFrame:=⟨40,133,(tX tZ (tX (tX tZ (tX tZ (tY (.ptr mk 0 0)))) tZ)),   [.ops (rg P 40 [1,1,1,1,0,1,0,0]).toList ((rg P 40 [1,1,1,1,0,1,0,0]).toList.drop 1),.code (cd P 40 [1,1,1,0,1,0,1]),.code (cd P 40 [1,1,1,1,1])],[],.run,CallKind.normal,none⟩
noncomputable def zhn:AFrame:=⟨40,133,(tW (tW (tX (tY (.int .i64 j)) tZ) (.ptr q 0 0) (tX (tX tZ (tX (tY (.ptr mk 0 0)) tZ)) tZ)) (.ptr mk 0 0) (tW tZ (.int .i64 n) (tX tZ (tX tZ (tX (tY (.int .i64 z2)) tZ))))),   [.ops (rg P 40 [1,1,1,1,1,1,0]).toList ((rg P 40 [1,1,1,1,1,1,0]).toList.drop 6),.code (cd P 40 [1,1,1,1,1,1,1])],[],.run,CallKind.normal,none⟩
noncomputable def zif:AFrame:=⟨40,133,(tX (tX tZ (tX tZ (tX (tY (.slc N 0 0 2 2)) tZ))) tZ),   [.ops (rg P (40:FuncId) [1,1,1,0,1,0,0]).toList ((rg P (40:FuncId) [1,1,1,0,1,0,0]).toList.drop 4),.code (cd P (40:FuncId) [1,1,1,0,1,0,1]),.code (cd P (40:FuncId) [1,1,1,1])],[],.run,CallKind.normal,none⟩
noncomputable def kA:AFrame:=⟨40,133,(tX (tX tZ (tX (tX tZ (tX tZ (tY (.ptr q 0 0)))) tZ)) (tX tZ (tX (tX tZ (tX tZ (tY (.int .i64 crq0)))) tZ))),   [.ops (rg P 40 [1,1,1,1,1,1,1,0,1,0,0]).toList ((rg P 40 [1,1,1,1,1,1,1,0,1,0,0]).toList.drop 2),.code (cd P 39 [1,1,0,1,0,1]),.code (cd P 40 [1,1,1,1,1,1,1,1])],[],.run,CallKind.normal,none⟩
noncomputable def Wnee:AM:=⟨⟨40,133,(tW (tW (tX (tY (.int .i64 j)) tZ) (.ptr q 0 0) tZ) (.ptr mk 0 0) (tW (tX (tY (.int .i64 j2)) tZ) (.int .i64 n) tZ)),   [.code (cd P 40 [1,1,1,1,1,1,1,1])],[],.run,CallKind.normal,none⟩,rest,⟨O,N,G⟩⟩
noncomputable def zbs:AFrame:=⟨40,133,(tX (tX (tX (tX tZ (tY prq1)) tZ) tZ) (tX (tX (tX tZ (tY (.int .i64 crq1))) tZ) tZ)),   [.ops (rg P (40:FuncId) [1,1,1,0,1,0,0]).toList ((rg P (40:FuncId) [1,1,1,0,1,0,0]).toList.drop 7),.code (cd P (40:FuncId) [1,1,1,0,1,0,1]),.code (cd P (40:FuncId) [1,1,1,1])],[],.run,CallKind.normal,none⟩
noncomputable def znX:AFrame:=⟨40,133,(tW (tW (tX (tW (tX (tX (tY (.ptr q 0 0)) tZ) (tX (tY (.int .i64 (IntKind.i64.wrap (n - (1:Int))))) tZ)) (.int .i64 j) (tX (tX (tY (.ptr q 0 3)) tZ) tZ)) (tX (tX (tX (tY (.bool (k2==(8:Int)))) tZ) tZ) (tX (tX (tY (.ptr q 0 0)) tZ) tZ))) (.ptr q 0 0) (tX (tX (tX (tX (tY (.ptr q 0 0)) tZ) tZ) (tX (tX (tY (.ptr mk 0 0)) tZ) tZ)) (tX (tX (tX (tY (.ptr q 0 0)) tZ) tZ) (tX (tX (tY rp2) tZ) (tY (.bool (j==(4:Int)))))))) (.ptr mk 0 0) (tW (tX (tW (tX (tX (tY (.ptr q 0 0)) tZ) tZ) (.int .i64 j2) (tX (tX (tY sa2) tZ) tZ)) (tX (tX (tX (tY (.bool true)) tZ) tZ) (tX (tX (tY (.ptr q 0 4)) tZ) (tY (.int .i64 j))))) (.int .i64 n) (tX (tX (tX (tX (tY (.int .i64 k2)) tZ) tZ) (tX (tX (tY (.ptr q 0 0)) tZ) tZ)) (tX (tX (tX (tY (.ptr q 0 0)) tZ) tZ) (tX (tX (tY (.int .i64 n)) tZ) (tY (.bool true))))))),   [.drw (rg P 40 [1,1,1,1,1,1,1,1,0,1,0,0]) [11,12,13,14,15,16] [10,9,8,7,6,5,4,3,2,1,0],.code (cd P 40 [1,1,1,0,1,0,1]),.code (cd P 40 [1,1,1,1,1,1,1,1,1])],[],.run,CallKind.normal,none⟩
noncomputable def Wnec:AM:=⟨⟨40,133,(tW (tY (.ptr q 0 0)) (.ptr mk 0 0) (tW (tX (tY (.int .i64 j2)) tZ) (.int .i64 n) tZ)),   [.code (cd P 40 [1,1,1,1,1,1,1,1,1])],[],.run,CallKind.normal,none⟩,rest,⟨O,N,G⟩⟩
noncomputable def zev:AFrame:=⟨40,133,(tW (tW (tX (tW (tX (tX (tY (.ptr q 0 0)) tZ) (tX (tY (.int .i64 (IntKind.i64.wrap (n - (1:Int))))) tZ)) (.int .i64 j) (tX (tX (tY (.ptr q 0 3)) tZ) tZ)) (tX (tX (tX (tY (.bool (k2==(8:Int)))) tZ) tZ) (tX (tX (tY (.ptr q 0 0)) tZ) tZ))) (.ptr q 0 0) (tX (tX (tX (tX (tY (.ptr q 0 0)) tZ) tZ) (tX (tX (tY (.ptr mk 0 0)) tZ) tZ)) (tX (tX (tX (tY (.ptr q 0 0)) tZ) tZ) (tX (tX (tY rp2) tZ) (tY (.bool (j==(4:Int)))))))) (.ptr mk 0 0) (tW (tX (tW (tX (tX (tY (.ptr q 0 0)) tZ) (tX (tY prq0) tZ)) (.int .i64 j2) (tX (tX (tY sa2) tZ) tZ)) (tX (tX (tX (tY (.bool true)) tZ) tZ) (tX (tX (tY (.ptr q 0 4)) tZ) (tY (.int .i64 j))))) (.int .i64 n) (tX (tX (tX (tX (tY (.int .i64 k2)) tZ) tZ) (tX (tX (tY (.ptr q 0 0)) tZ) tZ)) (tX (tX (tX (tY (.ptr q 0 0)) tZ) tZ) (tX (tX (tY (.int .i64 n)) tZ) (tY (.bool true))))))),   [.drw (rg P (40:FuncId) [1,1,1,1,1,1,1,1,0,1,0,0]) [12,13,14,15,16] [11,10,9,8,7,6,5,4,3,2,1,0],.code (cd P (40:FuncId) [1,1,1,0,1,0,1]),.code (cd P (40:FuncId) [1,1,1,1,1,1,1,1,1])],[],.run,CallKind.normal,none⟩
noncomputable def jT:AFrame:=⟨40,133,(tW (tW (tX (tW (tX (tX (tY (.ptr q 0 0)) tZ) (tX (tY (.int .i64 (IntKind.i64.wrap (n - (1:Int))))) tZ)) (.int .i64 j) (tX (tX (tY (.ptr q 0 3)) tZ) tZ)) (tX (tX (tX (tY (.bool (k2==(8:Int)))) tZ) (tX (tY (.int .i64 crq1)) tZ)) (tX (tX (tY (.ptr q 0 0)) tZ) tZ))) (.ptr q 0 0) (tX (tX (tX (tX (tY (.ptr q 0 0)) tZ) (tX (tY (.tup [prq1,.int .i64 crq1])) tZ)) (tX (tX (tY (.ptr mk 0 0)) tZ) tZ)) (tX (tX (tX (tY (.ptr q 0 0)) tZ) tZ) (tX (tX (tY rp2) tZ) (tY (.bool (j==(4:Int)))))))) (.ptr mk 0 0) (tW (tX (tW (tX (tX (tY (.ptr q 0 0)) tZ) (tX (tY prq0) tZ)) (.int .i64 j2) (tX (tX (tY sa2) tZ) tZ)) (tX (tX (tX (tY (.bool true)) tZ) tZ) (tX (tX (tY (.ptr q 0 4)) tZ) (tY (.int .i64 j))))) (.int .i64 n) (tX (tX (tX (tX (tY (.int .i64 k2)) tZ) (tX (tY prq1) tZ)) (tX (tX (tY (.ptr q 0 0)) tZ) tZ)) (tX (tX (tX (tY (.ptr q 0 0)) tZ) tZ) (tX (tX (tY (.int .i64 n)) tZ) (tY (.bool true))))))),   [.drw (rg P (40:FuncId) [1,1,1,1,1,1,1,1,0,1,0,0]) [15,16] [14,13,12,11,10,9,8,7,6,5,4,3,2,1,0],.code (cd P (40:FuncId) [1,1,1,0,1,0,1]),.code (cd P (40:FuncId) [1,1,1,1,1,1,1,1,1])],[],.run,CallKind.normal,none⟩
noncomputable def Fnec:AFrame:=⟨40,133,(tX (tW (tX tZ (tX (tX (tX tZ (tY (.int .i64 (IntKind.i64.wrap (n - (1:Int)))))) tZ) (tX tZ (tX (tY s1) tZ)))) (.ptr q 0 0) (tX (tW (tX (tX tZ (tY s2)) tZ) s1 tZ) (tX tZ (tX tZ (tX (tY (.ptr mk 0 0)) tZ))))) (tX (tX tZ (tX tZ (tX tZ (tX (tY (.int .i64 j2)) tZ)))) tZ)),   [.ops (rg P 40 [1,1,1,1,1,1,1,1,1,1,1,0]).toList ((rg P 40 [1,1,1,1,1,1,1,1,1,1,1,0]).toList.drop 9),.code (cd P 40 [1,1,1,1,1,1,1,1,1,1,1,1])],[],.run,CallKind.normal,none⟩
noncomputable def Wned:AM:=⟨⟨40,133,(tX (tW tZ (.ptr q 0 0) (tX (tY sl) tZ)) tZ),   [.code (cd P (40:FuncId) [1,1,1,1,1,1,1,1,1,1,1,1])],[],.run,CallKind.normal,none⟩,rest,⟨O,N,G⟩⟩
noncomputable def zre:AFrame:=⟨40,133,(tX (tX (tX (tX (tX tZ (tX tZ (tY sn2))) tZ) tZ) tZ) (tX (tX (tX (tX tZ (tX tZ (tY sl))) tZ) tZ) tZ)),   [.ops (rg P 40 [1,1,1,1,1,1,1,1,1,1,1,1,0,1,0,1,0,0]).toList ((rg P 40 [1,1,1,1,1,1,1,1,1,1,1,1,0,1,0,1,0,0]).toList.drop 5),.code (cd P 40 [1,1,1,0,1,0,1]),.inBlock 0,.code (cd P 40 [1,1,1,1,1,1,1,1,1,1,1,1,1])],[],.run,CallKind.normal,none⟩
noncomputable def zop:AFrame:=⟨40,133,(tX (tX (tX (tX tZ (tX tZ (tX tZ (tY sl)))) (tX tZ (tX tZ (tX tZ (tY rp2))))) tZ) tZ),   [.ops (rg P 40 [1,1,1,1,1,1,1,1,1,1,1,1,0,1,0,1,1,1,0,0]).toList ((rg P 40 [1,1,1,1,1,1,1,1,1,1,1,1,0,1,0,1,1,1,0,0]).toList.drop 5),.code (cd P 40 [1,1,1,0,1,0,1]),.inBlock 0,.code (cd P 40 [1,1,1,1,1,1,1,1,1,1,1,1,1])],[],.run,CallKind.normal,none⟩
noncomputable def zom:AFrame:=⟨40,133,(tX tZ (tX (tX (tX (tX (tX (tX (tY sl) tZ) tZ) tZ) tZ) tZ) tZ)),   [.ops (rg P 40 [1,1,1,1,1,1,1,1,1,1,1,1,1,0]).toList ((rg P 40 [1,1,1,1,1,1,1,1,1,1,1,1,1,0]).toList.drop 1),.code (cd P 40 [1,1,1,0,1,0,1])],[],.run,CallKind.normal,none⟩
noncomputable def zia:AFrame:=⟨40,133,(tX (tX (tX tZ (tX (tX tZ (tX tZ (tY (.int .i64 crq0)))) tZ)) tZ) (tX tZ (tX (tX (tX tZ (tX tZ (tY prq0))) tZ) tZ))),   [.ops (rg P (40:FuncId) [1,1,1,1,1,1,1,1,1,1,1,1,0,1,0,1,0,0]).toList ((rg P (40:FuncId) [1,1,1,1,1,1,1,1,1,1,1,1,0,1,0,1,0,0]).toList.drop 8),.code (cd P (40:FuncId) [1,1,1,0,1,0,1]),.inBlock 0,.code (cd P (40:FuncId) [1,1,1,1,1,1,1,1,1,1,1,1,1])],[],.run,CallKind.normal,none⟩
noncomputable def zek:AFrame:=⟨40,133,(tX (tX tZ (tX tZ (tX tZ (tX tZ (tX tZ (tY prq0)))))) (tX tZ (tX tZ (tX tZ (tX tZ (tX tZ (tY (.int .i64 crq0)))))))),   [.ops (rg P (40:FuncId) [1,1,1,1,1,1,1,1,1,1,1,1,0,1,0,1,1,1,0,0]).toList ((rg P (40:FuncId) [1,1,1,1,1,1,1,1,1,1,1,1,0,1,0,1,1,1,0,0]).toList.drop 8),.code (cd P (40:FuncId) [1,1,1,0,1,0,1]),.inBlock 0,.code (cd P (40:FuncId) [1,1,1,1,1,1,1,1,1,1,1,1,1])],[],.run,CallKind.normal,none⟩
noncomputable def ze1:AFrame:=⟨40,133,(tX (tX (tX tZ (tX (tX (tX (tX (tY (.int .i64 crq0)) tZ) tZ) tZ) tZ)) tZ) (tX tZ (tX (tX (tX (tX (tX (tY prq0) tZ) tZ) tZ) tZ) tZ))),   [.ops (rg P (40:FuncId) [1,1,1,1,1,1,1,1,1,1,1,1,1,0]).toList ((rg P (40:FuncId) [1,1,1,1,1,1,1,1,1,1,1,1,1,0]).toList.drop 4),.code (cd P (40:FuncId) [1,1,1,0,1,0,1])],[],.run,CallKind.normal,none⟩
end
section
variable {R:AV→AHeap→Prop} {keep N q mk Nc:Nat} {f0:FuncId} {rest:List AFrame} {O:T AObj} {n j crq0 crq1 z2c k2 j2:Int} {G:T (T AV)} {K:AM→Prop} {sl sl2 sn2 sa2 prq0 prq1 prq2 rp2 s1c s2c:AV} {td:List AItem}
theorem t_wit:(K (zp3 q n 0 (.nils 0 0) (.nils 0 0) rest O N G))=OT f0 R keep K (.seq [.run 19,.keep [0,1,5,6,7]] .fin) ((AM.mk (enF 81 [.ptr q 0 0,.int .i64 n]) rest ⟨O,N,G⟩)):=by kernel_rfl
theorem zn0:(∃ (z1:Int),(lC O N G q 2 sn2)∧(lN O N G 32 sn2 z1)∧((decide (j<z1))=true→((((j != n))=true→(∃ (i1:Nat) (i2:Nat) (i3:Nat) (l1:List UInt8) (O1:T AObj) (s1:AV) (O2:T AObj) (N1:Nat) (i4:Nat) (i5:Nat) (i6:Nat) (s2:AV) (O3:T AObj) (s3:AV) (O4:T AObj) (N2:Nat),(lC O N G q 2 sn2)∧(iX 32 sn2 j i1 i2 i3)∧(lR O N G i1 i2 i3 (.str l1))∧(zd P (⟨O,N,G⟩) (32) (1) ([(0,.str l1)])=(some (.slc N 0 0 1 1,⟨O1,N+1,G⟩)))∧(zf P (⟨O1,N+1,G⟩) (Builtin.append) ((some 32)) ((some 32)) ([sl,.slc N 0 0 1 1])=(some (.val s1 ⟨O2,N1,G⟩)))∧(lC O2 N1 G q 3 sa2)∧(iX 33 sa2 j i4 i5 i6)∧(lR O2 N1 G i4 i5 i6 s2)∧(zd P (⟨O2,N1,G⟩) (33) (1) ([(0,s2)])=(some (.slc N1 0 0 1 1,⟨O3,N1+1,G⟩)))∧(zf P (⟨O3,N1+1,G⟩) (Builtin.append) ((some 33)) ((some 33)) ([sl2,.slc N1 0 0 1 1])=(some (.val s3 ⟨O4,N2,G⟩)))∧K (zp3 q n (IntKind.i64.wrap (j+(1:Int))) s1 s3 rest O4 N2 G)))∧(((j != n))=false→(K (zp3 q n (IntKind.i64.wrap (j+(1:Int))) sl sl2 rest O N G)))))∧((decide (j<z1))=false→(K (AM.mk (enF 23 [sl,sl2]) ((znr sl sl2)::rest) ⟨O,N,G⟩))))=OT f0 R keep K (.ex fun z1:Int=>(.seq [.run 7,.hop (sn2) O,.hopn (.int .i64 z1) O (N),.run 2] (.fork 14 (.seq [.run 10] (.fork 19 (.ex fun i1:Nat=>(.ex fun i2:Nat=>(.ex fun i3:Nat=>(.ex fun l1:List UInt8=>(.ex fun O1:T AObj=>(.ex fun s1:AV=>(.ex fun O2:T AObj=>(.ex fun N1:Nat=>(.ex fun i4:Nat=>(.ex fun i5:Nat=>(.ex fun i6:Nat=>(.ex fun s2:AV=>(.ex fun O3:T AObj=>(.ex fun s3:AV=>(.ex fun O4:T AObj=>(.ex fun N2:Nat=>(.seq [.run 7,.hop (sn2) O,.run 1,.hopn (.ptr i1 i2 i3) O (N),.hop (.str l1) O,.hopn (.slc N 0 0 1 1) O1 (N+1),.hopn (s1) O2 (N1),.run 7,.hop (sa2) O2,.run 1,.hopn (.ptr i4 i5 i6) O2 (N1),.hop (s2) O2,.hopn (.slc N1 0 0 1 1) O3 (N1+1),.hopn (s3) O4 (N2),.run 9,.keep [0,1,5,6,7]] .fin))))))))))))))))) (.seq [.run 9,.keep [0,1,5,6,7]] .fin))) (.seq [.run 6,.keep [40,41],.run 1] .fin)))) ((zp3 q n j sl sl2 rest O N G)):=by kernel_rfl
theorem zjg:(K (AM.mk (enF 80 [prq0,.int .i64 crq0]) ((zfv crq0 prq0)::rest) ⟨O,N,G⟩))=OT f0 R keep K (.seq [.run 3,.keep [43,44],.run 1] .fin) ((AM.mk (RF 23 135 (tX (tX tZ (tY (.int .i64 crq0))) (tX (tY prq0) tZ)) td) ((znr sl sl2)::rest) ⟨O,N,G⟩)):=by kernel_rfl
theorem zdi:(K (AM.mk (RF 81 46 (tX tZ (tX (tY prq1) tZ)) [.code (cd P (81:FuncId) [1,1,1,1,1])]) rest ⟨O,N,G⟩))=OT f0 R keep K (.seq [.run 4,.keep [4]] .fin) ((AM.mk (RF 80 10 (tX tZ (tX (tY prq1) tZ)) td) ((zfv crq0 prq0)::rest) ⟨O,N,G⟩)):=by kernel_rfl
theorem t_nea:(K (AM.mk (enF 73 [.ptr mk 0 0,.int .i64 6]) ((Fnea q n mk)::rest) ⟨O,N,G⟩))=OT f0 R keep K (.seq [.run 7,.keep [0,1,2,10],.run 1] .fin) ((AM.mk (enF 40 [.ptr mk 0 0,.ptr q 0 0,.int .i64 n]) rest ⟨O,N,G⟩)):=by kernel_rfl
theorem zmt:(((decide (n<(1:Int)))=true→(K (AM.mk (enF 73 [.ptr mk 0 0,.int .i64 2]) ((zhl q n mk)::rest) ⟨O,N,G⟩)))∧((decide (n<(1:Int)))=false→(K (Wneb q n crq0 mk rest O N G))))=OT f0 R keep K (.seq [.run 9] (.fork 13 (.seq [.run 3,.keep [0,1,2,14],.run 1] .fin) (.seq [.run 2,.keep [0,1,2,7]] .fin))) ((AM.mk (RF 73 30 (tX tZ (tX (tY (.int .i64 crq0)) tZ)) td) ((Fnea q n mk)::rest) ⟨O,N,G⟩)):=by kernel_rfl
theorem zft:(K (Wneb q n crq1 mk rest O N G))=OT f0 R keep K (.seq [.run 3,.keep [0,1,2,7]] .fin) ((AM.mk (RF 73 30 (tX tZ (tX (tY (.int .i64 crq1)) tZ)) td) ((zhl q n mk)::rest) ⟨O,N,G⟩)):=by kernel_rfl
theorem t_neb:((((j==(1:Int)))=true→(K (AM.mk (enF 39 [.ptr mk 0 0,.int .i64 1]) ((zqK q mk)::rest) ⟨O,N,G⟩)))∧(((j==(1:Int)))=false→((((j==(2:Int)))=true→(K (AM.mk (enF 39 [.ptr mk 0 0,.int .i64 2]) ((zne mk)::rest) ⟨O,N,G⟩)))∧(((j==(2:Int)))=false→((((j==(0:Int)))=true→(K (AM.mk (RF 40 133 (tX tZ (tX tZ (tY (.ptr q 0 0)))) [.code (cd P 40 [1,1,1,0,1,0,1]),.code (cd P 40 [1,1,1,1,1,1])]) rest ⟨O,N,G⟩)))∧(((j==(0:Int)))=false→(∃ (z1:Int),(lC O N G q 3 sa2)∧(lN O N G 33 sa2 z1)∧(((z1==(0:Int)))=true→(K (AM.mk (RF 40 133 (tX tZ (tX tZ (tY (.ptr q 0 0)))) [.code (cd P 40 [1,1,1,0,1,0,1]),.code (cd P 40 [1,1,1,1,1,1])]) rest ⟨O,N,G⟩)))∧(((z1==(0:Int)))=false→(∃ (z2:Int),(lC O N G q 3 sa2)∧(lN O N G 33 sa2 z2)∧K (AM.mk (enF 73 [.ptr mk 0 0,.int .i64 z2]) ((zhn q n j mk z2)::rest) ⟨O,N,G⟩))))))))))=OT f0 R keep K (.seq [.run 6] (.fork 17 (.seq [.run 5,.keep [18,19],.run 1] .fin) (.seq [.run 8] (.fork 27 (.seq [.run 4,.keep [28],.run 1] .fin) (.seq [.run 8] (.fork 32 (.seq [.run 15,.keep [6]] .fin) (.ex fun z1:Int=>(.seq [.run 3,.hop (sa2) O,.hopn (.int .i64 z1) O (N),.run 3] (.fork 39 (.seq [.run 7,.keep [6]] .fin) (.ex fun z2:Int=>(.seq [.run 8,.hop (sa2) O,.hopn (.int .i64 z2) O (N),.keep [0,1,2,7,41,46],.run 1] .fin))))))))))) ((Wneb q n j mk rest O N G)):=by kernel_rfl
theorem zlO:(∃ (O1:T AObj),(zd P (⟨O,N,G⟩) (33) (2) ([(0,.ptr q 0 0),(1,prq0)])=(some (.slc N 0 0 2 2,⟨O1,N+1,G⟩)))∧K (AM.mk (enF 26 [.slc N 0 0 2 2]) ((zif N)::rest) ⟨O1,N+1,G⟩))=OT f0 R keep K (.ex fun O1:T AObj=>(.seq [.run 1,.hopn (.slc N 0 0 2 2) O1 (N+1),.keep [21],.run 1] .fin)) ((AM.mk (RF 39 78 (tX tZ (tX (tY prq0) tZ)) td) ((zqK q mk)::rest) ⟨O,N,G⟩)):=by kernel_rfl
theorem zfC:(K (AM.mk (enF 80 [prq1,.int .i64 crq1]) ((zbs crq1 prq1)::rest) ⟨O,N,G⟩))=OT f0 R keep K (.seq [.run 3,.keep [23,24],.run 1] .fin) ((AM.mk (RF 26 129 (tX (tX (tY (.int .i64 crq1)) tZ) (tY prq1)) td) ((zif Nc)::rest) ⟨O,N,G⟩)):=by kernel_rfl
theorem zbh:(K (AM.mk (RF 40 133 (tX tZ (tX tZ (tY prq2))) [.code (cd P (40:FuncId) [1,1,1,0,1,0,1]),.code (cd P (40:FuncId) [1,1,1,1])]) rest ⟨O,N,G⟩))=OT f0 R keep K (.seq [.run 4,.keep [6]] .fin) ((AM.mk (RF 80 10 (tX tZ (tX (tY prq2) tZ)) td) ((zbs crq1 prq1)::rest) ⟨O,N,G⟩)):=by kernel_rfl
theorem ziP:(K (AM.mk (RF 40 133 (tX tZ (tX tZ (tY prq0))) [.code (cd P (40:FuncId) [1,1,1,0,1,0,1]),.code (cd P (40:FuncId) [1,1,1,1,1])]) rest ⟨O,N,G⟩))=OT f0 R keep K (.seq [.run 4,.keep [6]] .fin) ((AM.mk (RF 39 78 (tX tZ (tX (tY prq0) tZ)) td) ((zne mk)::rest) ⟨O,N,G⟩)):=by kernel_rfl
theorem ze8:((((j==(3:Int)))=true→((lC O N G q 0 (.int .i64 k2))∧(((k2==(7:Int)))=true→(K (AM.mk (enF 81 [.ptr q 0 0,.int .i64 crq0]) ((kA q crq0)::rest) ⟨O,N,G⟩)))∧(((k2==(7:Int)))=false→(K (Wnee q n j crq0 mk rest O N G)))))∧(((j==(3:Int)))=false→(K (Wnee q n j crq0 mk rest O N G))))=OT f0 R keep K (.seq [.run 9] (.fork 50 (.seq [.run 3,.hop (.int .i64 k2) O,.run 3] (.fork 56 (.seq [.run 5,.keep [57,58],.run 1] .fin) (.seq [.run 2,.keep [0,1,2,7,8]] .fin))) (.seq [.run 9,.keep [0,1,2,7,8]] .fin))) ((AM.mk (RF 73 30 (tX tZ (tX (tY (.int .i64 crq0)) tZ)) td) ((zhn q n j mk z2c)::rest) ⟨O,N,G⟩)):=by kernel_rfl
theorem jL:(K (AM.mk (RF 40 133 (tX tZ (tX tZ (tY prq1))) [.code (cd P (39:FuncId) [1,1,0,1,0,1]),.code (cd P (40:FuncId) [1,1,1,1,1,1,1,1])]) rest ⟨O,N,G⟩))=OT f0 R keep K (.seq [.run 4,.keep [6]] .fin) ((AM.mk (RF 81 46 (tX tZ (tX (tY prq1) tZ)) td) ((kA q crq0)::rest) ⟨O,N,G⟩)):=by kernel_rfl
theorem t_nee:((((j==(4:Int)))=true→((lC O N G q 0 (.int .i64 k2))∧(((k2==(8:Int)))=true→((lC O N G q 3 sa2)∧(lC O N G q 4 rp2)∧K (AM.mk (enF 40 [.ptr mk 0 0,rp2,.int .i64 (IntKind.i64.wrap (n - (1:Int)))]) ((znX q k2 sa2 rp2 n j j2 mk)::rest) ⟨O,N,G⟩)))∧(((k2==(8:Int)))=false→(K (Wnec q n j2 mk rest O N G)))))∧(((j==(4:Int)))=false→(K (Wnec q n j2 mk rest O N G))))=OT f0 R keep K (.seq [.run 6] (.fork 62 (.seq [.run 3,.hop (.int .i64 k2) O,.run 3] (.fork 68 (.seq [.run 6,.hop (sa2) O,.run 4,.hop (rp2) O,.run 3] .fin) (.seq [.run 2,.keep [0,1,2,8]] .fin))) (.seq [.run 9,.keep [0,1,2,8]] .fin))) ((Wnee q n j j2 mk rest O N G)):=by kernel_rfl
theorem zjA:((True)∧(lC O N G q 3 sa2)∧(okD 300 sa2=true)∧K (AM.mk (enF 28 [sa2,prq0]) ((zev q k2 sa2 rp2 n j j2 mk prq0)::rest) ⟨O,N,G⟩))=OT f0 R keep K (.seq [.hret [.nilp],.run 1] .fin) ((AM.mk (RF 40 133 (tX tZ (tX tZ (tY prq0))) td) ((znX q k2 sa2 rp2 n j j2 mk)::rest) ⟨O,N,G⟩)):=by kernel_rfl
theorem zc0:(K (AM.mk (enF 80 [prq1,.int .i64 crq1]) ((jT q k2 sa2 rp2 n j j2 mk prq0 crq1 prq1)::rest) ⟨O,N,G⟩))=OT f0 R keep K (.seq [.run 4] .fin) ((AM.mk (RF 28 31 (tX (tX tZ (tY (.int .i64 crq1))) (tX (tY prq1) tZ)) td) ((zev q k2 sa2 rp2 n j j2 mk prq0)::rest) ⟨O,N,G⟩)):=by kernel_rfl
theorem zak:(K (AM.mk (RF 40 133 (tX tZ (tX tZ (tY prq2))) [.code (cd P (40:FuncId) [1,1,1,0,1,0,1]),.code (cd P (40:FuncId) [1,1,1,1,1,1,1,1,1])]) rest ⟨O,N,G⟩))=OT f0 R keep K (.seq [.run 4,.keep [6]] .fin) ((AM.mk (RF 80 10 (tX tZ (tX (tY prq2) tZ)) td) ((jT q k2 sa2 rp2 n j j2 mk prq0 crq1 prq1)::rest) ⟨O,N,G⟩)):=by kernel_rfl
theorem t_nec:(∃ (s1:AV) (O1:T AObj) (N1:Nat) (i1:Nat) (i2:Nat) (i3:Nat) (s2:AV),(lC O N G q 3 sa2)∧(zf P (⟨O,N,G⟩) (Builtin.append) ((some 33)) ((some 33)) ([.nils 0 0,sa2])=(some (.val s1 ⟨O1,N1,G⟩)))∧(iX 33 s1 j2 i1 i2 i3)∧(lR O1 N1 G i1 i2 i3 s2)∧K (AM.mk (enF 40 [.ptr mk 0 0,s2,.int .i64 (IntKind.i64.wrap (n - (1:Int)))]) ((Fnec q n j2 mk s1 s2)::rest) ⟨O1,N1,G⟩))=OT f0 R keep K (.ex fun s1:AV=>(.ex fun O1:T AObj=>(.ex fun N1:Nat=>(.ex fun i1:Nat=>(.ex fun i2:Nat=>(.ex fun i3:Nat=>(.ex fun s2:AV=>(.seq [.run 10,.hop (sa2) O,.hopn (s1) O1 (N1),.run 9,.hopn (.ptr i1 i2 i3) O1 (N1),.hop (s2) O1,.run 2,.keep [1,9,91,92,93,97,99],.run 1] .fin)))))))) ((Wnec q n j2 mk rest O N G)):=by kernel_rfl
theorem zm2:(∃ (i1:Nat) (i2:Nat) (i3:Nat) (O1:T AObj),(iX 33 s1c j2 i1 i2 i3)∧(prq0.cells.length.beq (1)=true∧zc (⟨O,N,G⟩:AHeap) i1 i2 i3 prq0.cells=some (⟨O1,N,G⟩:AHeap))∧K (Wned q s1c rest O1 N G))=OT f0 R keep K (.ex fun i1:Nat=>(.ex fun i2:Nat=>(.ex fun i3:Nat=>(.ex fun O1:T AObj=>(.seq [.run 1,.hopn (.ptr i1 i2 i3) O (N),.hopn (.nilp) O1 (N),.run 1,.keep [1,9]] .fin))))) ((AM.mk (RF 40 133 (tX tZ (tX tZ (tY prq0))) td) ((Fnec q n j2 mk s1c s2c)::rest) ⟨O,N,G⟩)):=by kernel_rfl
theorem t_ned:((lC O N G q 0 (.int .i64 k2))∧(((k2==(7:Int)))=true→((lC O N G q 2 sn2)∧K (AM.mk (enF 23 [sn2,sl]) ((zre sn2 sl)::rest) ⟨O,N,G⟩)))∧(((k2==(7:Int)))=false→((((k2==(8:Int)))=true→((lC O N G q 4 rp2)∧K (AM.mk (enF 28 [sl,rp2]) ((zop rp2 sl)::rest) ⟨O,N,G⟩)))∧(((k2==(8:Int)))=false→(K (AM.mk (enF 26 [sl]) ((zom sl)::rest) ⟨O,N,G⟩))))))=OT f0 R keep K (.seq [.run 6,.hop (.int .i64 k2) O,.run 7] (.fork 106 (.seq [.run 6,.hop (sn2) O,.run 1,.keep [111,112],.run 1] .fin) (.seq [.run 6] (.fork 117 (.seq [.run 7,.hop (rp2) O,.keep [119,123],.run 1] .fin) (.seq [.run 6,.keep [128],.run 1] .fin))))) ((Wned q sl rest O N G)):=by kernel_rfl
theorem zlo:(K (AM.mk (enF 80 [prq0,.int .i64 crq0]) ((zia crq0 prq0)::rest) ⟨O,N,G⟩))=OT f0 R keep K (.seq [.run 3,.keep [114,115],.run 1] .fin) ((AM.mk (RF 23 135 (tX (tX tZ (tY (.int .i64 crq0))) (tX (tY prq0) tZ)) td) ((zre sn2 sl)::rest) ⟨O,N,G⟩)):=by kernel_rfl
theorem zfG:(K (AM.mk (RF 40 133 (tX tZ (tX tZ (tY prq1))) [.code (cd P (40:FuncId) [1,1,1,0,1,0,1]),.inBlock 0,.code (cd P (40:FuncId) [1,1,1,1,1,1,1,1,1,1,1,1,1])]) rest ⟨O,N,G⟩))=OT f0 R keep K (.seq [.run 4,.keep [6]] .fin) ((AM.mk (RF 80 10 (tX tZ (tX (tY prq1) tZ)) td) ((zia crq0 prq0)::rest) ⟨O,N,G⟩)):=by kernel_rfl
theorem ziF:(K (AM.mk (enF 80 [prq0,.int .i64 crq0]) ((zek crq0 prq0)::rest) ⟨O,N,G⟩))=OT f0 R keep K (.seq [.run 3,.keep [125,126],.run 1] .fin) ((AM.mk (RF 28 31 (tX (tX tZ (tY (.int .i64 crq0))) (tX (tY prq0) tZ)) td) ((zop rp2 sl)::rest) ⟨O,N,G⟩)):=by kernel_rfl
theorem zdd:(K (AM.mk (RF 40 133 (tX tZ (tX tZ (tY prq1))) [.code (cd P (40:FuncId) [1,1,1,0,1,0,1]),.inBlock 0,.code (cd P (40:FuncId) [1,1,1,1,1,1,1,1,1,1,1,1,1])]) rest ⟨O,N,G⟩))=OT f0 R keep K (.seq [.run 4,.keep [6]] .fin) ((AM.mk (RF 80 10 (tX tZ (tX (tY prq1) tZ)) td) ((zek crq0 prq0)::rest) ⟨O,N,G⟩)):=by kernel_rfl
theorem zi3:(K (AM.mk (enF 80 [prq0,.int .i64 crq0]) ((ze1 crq0 prq0)::rest) ⟨O,N,G⟩))=OT f0 R keep K (.seq [.run 3,.keep [130,131],.run 1] .fin) ((AM.mk (RF 26 129 (tX (tX (tY (.int .i64 crq0)) tZ) (tY prq0)) td) ((zom sl)::rest) ⟨O,N,G⟩)):=by kernel_rfl
theorem zdp:(K (AM.mk (RF 40 133 (tX tZ (tX tZ (tY prq1))) [.code (cd P (40:FuncId) [1,1,1,0,1,0,1])]) rest ⟨O,N,G⟩))=OT f0 R keep K (.seq [.run 4,.keep [6]] .fin) ((AM.mk (RF 80 10 (tX tZ (tX (tY prq1) tZ)) td) ((ze1 crq0 prq0)::rest) ⟨O,N,G⟩)):=by kernel_rfl
end
variable {O O':T AObj} {N:Nat} {G:T (T AV)}
theorem zpV {A:Nat→Prop}{an:Bool}{q n:Nat}{k2:Int}{nm:zi}{ns:List zi}{ts:List Ty}{ps:List (Option Nat)}{sn2 sa2 rp2:AV}(obq0:Obj O q [.int .i64 k2,.str nm,sn2,sa2,rp2])(hq:q<N)(vn0:SV O 1 sE 0 N ns sn2)(va0:SV O 1 pE 0 N ps sa2)(hl:ps.length=ts.length)(hl2:ns.length=ts.length)(hm:ts.length<1000000)(h8:∀ (j:Nat) (x:Ty) (p:Option Nat),ts[j]?=some x→ps[j]?=some p→Tra O N A x p)(na:an=false→∀ x∈ts,naT x=true)(hA:∀ j,A j→j<N){keep:Nat}{f0:FuncId}{Q:AV→AHeap→Prop}{rest:List AFrame}
 (hK:∀ O' N' td t' p',Ext O N O' N'→Tra O' N' A t' p'→MadeT an t'→Goal P keep f0 Q (AM.mk (RF 81 46 (tX tZ (tX (tY (pv p')) tZ)) td) rest ⟨O',N',G⟩)):Goal P keep f0 Q (AM.mk (enF 81 [.ptr q 0 0,.int .i64 ((n:Nat):Int)]) rest ⟨O,N,G⟩):=by
 have loop:∀ (k i:Nat) (O2:T AObj) (N2:Nat) (ms:List zi) (us:List Ty) (rs:List (Option Nat)) (sl sl2:AV),i+k=ns.length→Ext O N O2 N2→GV O2 9 1 sE N N2 ms sl→GV O2 23 1 pE N N2 rs sl2→(sl≠.nils 0 0→sl2≠.nils 0 0→sid sl≠sid sl2)→ms.length=us.length→rs.length=us.length→us.length≤i →
  (∀ (j:Nat) (x:Ty) (p:Option Nat),us[j]?=some x→rs[j]?=some p→Tra O N A x p)→(∀ u∈us,u∈ts)→Goal P keep f0 Q (zp3 q ((n:Nat):Int) ((i:Nat):Int) sl sl2 rest O2 N2 G):=by
  intro k
  induction k with
  | zero =>
   intro i O2 N2 ms us rs sl sl2 hk ex gm gr hd l1 l2 l3 hr hmem
   have nn:=ex.1
   have obq:=obq0.same (ex.2 q hq)
   have vn2:=vn0.keep (O':=O2) (fun j _ hj=>ex.2 j hj) (Nat.le_refl 0) (Nat.le_refl N)
   refine ot (zn0 (sn2:=sn2) (sa2:=sa2)) ⟨_,obq.ld 2 rfl,vn2.len sSl _ _,fkf (decide_eq_false (by omega)) ?_⟩
   refine zgg (mk:=A) ((gm.sv sEn).keep (fun _ _ _=>rfl) (Nat.zero_le _) (Nat.le_refl _)) ((gr.sv pEn).keep (fun _ _ _=>rfl) (Nat.zero_le _) (Nat.le_refl _)) l2 (by omega) (fun j x p a b=>(hr j x p a b).same (fun i h1 h2=>ex.2 i h1) ex.1) (Nat.le_refl _) (fun j h=>by have:=hA j h; omega) fun O8 N8 td8 p8 ex8 tx8=>?_
   have nn8:=ex8.1
   refine ot zjg ?_
   refine ku (M:=MadeT an) (MadeT.leaf (by decide) (by decide) (fun _=>by decide)) (fun h=>⟨tx8,zdH h (fun ha x hx=>na ha x (hmem x hx))⟩) (fun j h=>by have:=hA j h; omega) fun O9 N9 td9 t9 p9 ex9 tx9 md9=>?_
   exact ot zdi (hK O9 N9 _ t9 p9 (ex.trans (ex8.trans ex9)) tx9 md9)
  | succ k ih =>
   intro i O2 N2 ms us rs sl sl2 hk ex gm gr hd l1 l2 l3 hr hmem
   have nn:=ex.1
   have obq:=obq0.same (ex.2 q hq)
   have vn2:=vn0.keep (O':=O2) (fun j _ hj=>ex.2 j hj) (Nat.le_refl 0) (Nat.le_refl N)
   have va2:=va0.keep (O':=O2) (fun j _ hj=>ex.2 j hj) (Nat.le_refl 0) (Nat.le_refl N)
   obtain ⟨x,hx,hxm⟩:=nth (l:=ns) (j:=i) (by omega)
   obtain ⟨t,hxt,hxtm⟩:=nth (l:=ts) (j:=i) (by omega)
   obtain ⟨y,hy,_⟩:=nth (l:=ps) (j:=i) (by omega)
   refine ot (zn0 (sn2:=sn2) (sa2:=sa2)) ⟨_,obq.ld 2 rfl,vn2.len sSl _ _,fkt (decide_eq_true (by omega)) ?_⟩
   refine ⟨fun hc3=>?_,fun hc3=>?_⟩
   ·
    obtain ⟨O3,e1,v1,_,f1⟩:=qi sEn x O2 N2 G (st:=32) (el:=9) (litS x)
    have gm1:=gm.keep (O':=O3) (fun j h1 h2=>f1 j (by omega)) (Nat.le_refl _) (Nat.le_succ N2)
    obtain ⟨O4,N4,s1,e2,gm2,n4,n4',f2,hs2⟩:=gm1.app sSl sEn v1 (by omega) (by simp only [List.length_cons,List.length_nil]; omega) G
    have lo4:∀ j,j<N2→(sl≠.nils 0 0→j≠sid sl)→O4.get j=O2.get j:=fun j hj h=>(f2 j (by omega) h).trans (f1 j (by omega))
    have gr4:=gr.same (O':=O4) (fun h=>lo4 _ (gr.sid_lt h).2 (fun h2 h3=>hd h2 h h3.symm)) (Nat.le_refl _) (show N2≤N4 by omega)
    obtain ⟨O5,e3,v3,_,f3⟩:=qi pEn y O4 N4 G (st:=33) (el:=23) (zqh y)
    have gr5:=gr4.keep (O':=O5) (fun j h1 h2=>f3 j (by omega)) (Nat.le_refl _) (Nat.le_succ N4)
    obtain ⟨O6,N6,s3,e4,gr6,n6,n6',f4,hs4⟩:=gr5.app pSl pEn v3 (by omega) (by simp only [List.length_cons,List.length_nil]; omega) G
    have lo6:∀ j,j<N4→(sl2≠.nils 0 0→j≠sid sl2)→O6.get j=O4.get j:=fun j hj h=>(f4 j (by omega) h).trans (f3 j (by omega))
    have dis:s1≠.nils 0 0→sl2≠.nils 0 0→sid s1≠sid sl2:=fun h1 h2=>by
     have:=(gr.sid_lt h2).2
     rcases hs2 with h | h | ⟨h3,h⟩
     · exact absurd h h1
     · omega
     · rw [h]; exact hd h3 h2
    have dis2:s1≠.nils 0 0→s3≠.nils 0 0→sid s1≠sid s3:=fun h1 h2=>by
     have:=(gm2.sid_lt h1).2
     rcases hs4 with h | h | ⟨h3,h⟩
     · exact absurd h h2
     · omega
     · rw [h]; exact dis h1 h3
    have gm6:=gm2.same (O':=O6) (fun h=>lo6 _ (gm2.sid_lt h).2 (fun h2=>dis h h2)) (Nat.le_refl _) (show N4≤N6 by omega)
    have low6:∀ j,j<N→O6.get j=O.get j:=fun j hj=>(lo6 j (by omega) (fun h=>by have:=(gr.sid_lt h).1; omega)).trans ((lo4 j (by omega) (fun h=>by have:=(gm.sid_lt h).1; omega)).trans (ex.2 j hj))
    have obq4:=obq.same (lo4 q (by omega) (fun h=>by have:=(gm.sid_lt h).1; omega))
    have va4:=va2.keep (O':=O4) (fun j _ hj=>lo4 j (by omega) (fun h=>by have:=(gm.sid_lt h).1; omega)) (Nat.le_refl 0) (Nat.le_refl N)
    obtain ⟨r1,r2,r3,lor,hir,eR,rdR,_⟩:=vn2.at sSl sEn hx
    obtain ⟨p1,p2,p3,lop,hip,eP,rdP,_⟩:=va4.at pSl pEn hy
    have nx:=ih (i+1) O6 N6 (ms++[x]) (us++[t]) (rs++[y]) s1 s3 (by omega) ⟨by omega,low6⟩ gm6 gr6 dis2 (by rw [List.length_append,List.length_append,l1]; rfl) (by rw [List.length_append,List.length_append,l2]; rfl) (by rw [List.length_append]; simp only [List.length_cons,List.length_nil]; omega) (zc6 l2 hr (fun j z w a b=>by rcases j with _ | j <;> simp at a b; subst a; subst b; exact h8 i t y hxt hy)) (fun u hu=>by rw [List.mem_append,List.mem_singleton] at hu; exact hu.elim (hmem u) (fun h=>h▸hxtm))
    rw [← zx (i:=i) (by omega)] at nx
    exact ⟨_,_,_,_,_,_,_,_,_,_,_,_,_,_,_,_,obq.ld 2 rfl,eR,rdR.load rfl _ _,e1,e2,obq4.ld 3 rfl,eP,rdP.load rfl _ _,e3,e4,nx⟩
   ·
    have nx:=ih (i+1) O2 N2 ms us rs sl sl2 (by omega) ex gm gr hd l1 l2 (by omega) hr hmem
    rw [← zx (i:=i) (by omega)] at nx
    exact nx
 refine ot t_wit ?_
 exact loop ns.length 0 O N [] [] [] _ _ (Nat.zero_add _) Ext.refl GV.nil GV.nil (fun h=>absurd rfl h) rfl rfl (Nat.le_refl _) (fun j x p h=>by simp at h) (fun u h=>by cases h)
theorem zo6 {α β:Type}{R:α→β→Prop}{l:List α}{m:List β}{a:Nat}{v:α}{w:β}(h:∀ (j:Nat) x y,l[j]?=some x→m[j]?=some y→R x y)(hv:R v w)(j:Nat)(x:α)(y:β)(h1:(l.set a v)[j]?=some x)(h2:(m.set a w)[j]?=some y):R x y:=by
 rw [List.getElem?_set] at h1 h2
 by_cases hj:a=j
 · rw [if_pos hj] at h1 h2
   split at h1
   · split at h2
     · cases h1; cases h2; exact hv
     · cases h2
   · cases h1
 · rw [if_neg hj] at h1 h2
   exact h j x y h1 h2
theorem rel2 {α β:Type}{R:α→β→Prop}{a b:α}{p q:β}(h1:R a p)(h2:R b q)(j:Nat)(x:α)(y:β)(e1:[a,b][j]?=some x)(e2:[p,q][j]?=some y):R x y:=by
 rcases j with _ | _ | j
 · cases e1; cases e2; exact h1
 · cases e1; cases e2; exact h2
 · cases e1
theorem zmQ {p:Option Nat}:(pv p).cells=[pv p]:=by cases p <;> rfl
theorem litPP (q:Nat)(p:Option Nat):∀ h:AHeap,zd P h 33 2 [(0,.ptr q 0 0),(1,pv p)]=some (.slc h.next 0 0 2 2,xo h 23 (pE (some q)++pE p) false):=fun h=>by cases p <;> kernel_rfl
def zoy (hi mk:Nat) (an:Bool) (d:Nat):Prop:=∀ {A:Nat→Prop} {xs:List UInt8} {nn:Int} {t:Ty} {p:Option Nat} {O:T AObj} {N:Nat} {G:T (T AV)} {keep:Nat} {f0:FuncId} {Q:AV→AHeap→Prop} {rest:List AFrame},MKo O hi mk xs nn an→mk<N→(∀ j,A j→j<N)→A mk→Tra O N A t p→MadeT an t →
 (∀ (O':T AObj) (N':Nat) (td:List AItem) (ys:List UInt8) (nn':Int) (t':Ty) (p':Option Nat),N≤N'→(∀ j,j<N→j≠mk→O'.get j=O.get j)→MKo O' hi mk ys nn' an→Tra O' N' A t' p'→MadeT an t'→Goal P keep f0 Q (AM.mk (RF 40 133 (tX tZ (tX tZ (tY (pv p')))) td) rest ⟨O',N',G⟩))→Goal P keep f0 Q (AM.mk (enF 40 [.ptr mk 0 0,pv p,.int .i64 ((d:Nat):Int)]) rest ⟨O,N,G⟩)
theorem zfA {hi mk d:Nat}{an:Bool}(hmk:hi≤mk)(hd1:d≤1000)(hrec:d=0∨∃ d',d=d'+1∧zoy hi mk an d'):zoy hi mk an d:=by
 intro A xs nn t p O N G keep f0 Q rest hm hmN hA hAm tt md hK
 have zn8:ONE hi mk an 1:=zgf hmk 1 (by decide)
 have one2:ONE hi mk an 2:=zgf hmk 2 (by decide)
 obtain ⟨k2,nm,ns,ts,r,rfl,c60,oks,k7,k8,hna⟩:=id md
 obtain ⟨q,sn2,sa2,ps,qr,rfl,hqN,hqA,obq0,vn0,mn0,va0,ma0,hl,hl6,hn6,h8,h9⟩:=tt.inv
 have hqm:q≠mk:=fun h=>hqA (h▸hAm)
 have hnr:an=false→naT r=true:=fun ha=>(qM (hna ha)).2.2
 have cl:=zc2 (l:=ts) (fun z hz=>zdr (oks z hz))
 have hts:ts.length<10000:=by rw [xj] at c60; omega
 have stD:∀ (O7:T AObj) (N7:Nat) (zs:List UInt8) (n7:Int) (us:List Ty) (rs:List (Option Nat)) (s:AV),N≤N7→(∀ j,j<N→j≠mk→O7.get j=O.get j)→MKo O7 hi mk zs n7 an→SV O7 1 pE 0 N7 rs s→rs.length=us.length→us.length<10000→(∀ (j:Nat) (x:Ty) (p:Option Nat),us[j]?=some x→rs[j]?=some p→Tra O7 N7 A x p)→(an=false→∀ x∈us,naT x=true)→Goal P keep f0 Q (Wned q s rest O7 N7 G):=by
  intro O7 N7 zs n7 us rs s hN7 low7 m7 vs hls hus hrs hnas
  have obO7:=obq0.same (low7 q hqN hqm)
  have vaO7:SV O7 1 pE 0 N ps sa2:=va0.same (fun h=>low7 _ (va0.sid_lt h).2 (fun e=>ma0 h (e▸hAm))) (Nat.le_refl _) (Nat.le_refl _)
  have vnO7:SV O7 1 sE 0 N ns sn2:=vn0.same (fun h=>low7 _ (vn0.sid_lt h).2 (fun e=>mn0 h (e▸hAm))) (Nat.le_refl _) (Nat.le_refl _)
  have mvO7:∀ {x:Ty} {y:Option Nat} {M:Nat},N≤M→Tra O N A x y→Tra O7 M A x y:=fun hM h=>h.same (fun j h1 h2=>low7 j h1 (fun e=>h2 (e▸hAm))) hM
  refine ot (t_ned (k2:=k2) (sn2:=sn2) (rp2:=pv qr)) ⟨obO7.ld 0 rfl,fun hc7=>?_,fun hc7=>?_⟩
  ·
   refine ⟨obO7.ld 2 rfl,?_⟩
   refine zgg (mk:=A) (vnO7.keep (fun _ _ _=>rfl) (Nat.le_refl _) hN7) vs hls (by omega) hrs (Nat.le_refl _) (fun j h=>by have:=hA j h; omega) fun O8 N8 td8 p8 ex8 tx8=>?_
   refine ot zlo ?_
   have nn8:=ex8.1
   have low8:∀ j,j<N→j≠mk→O8.get j=O.get j:=fun j h1 h2=>(ex8.2 j (by omega)).trans (low7 j h1 h2)
   have m8:=m7.same (fun j hj=>ex8.2 j (by omega)) (ex8.2 mk (by omega))
   refine ku (M:=MadeT an) (MadeT.leaf (by decide) (by decide) (fun _=>by decide)) (fun h=>⟨tx8,zdH h hnas⟩) (fun j h=>by have:=hA j h; omega) fun O9 N9 td9 t9 p9 ex9 tx9 md9=>?_
   have nn9:=ex9.1
   exact ot zfG (hK O9 N9 _ _ _ t9 p9 (by omega) (fun j h1 h2=>(ex9.2 j (by omega)).trans (low8 j h1 h2)) (m8.same (fun j hj=>ex9.2 j (by omega)) (ex9.2 mk (by omega))) tx9 md9)
  ·
   refine ⟨fun hc8=>?_,fun hc8=>?_⟩
   ·
    refine ⟨obO7.ld 4 rfl,?_⟩
    refine zg1 (mk:=A) (an:=an) vs hls (by omega) hrs (mvO7 hN7 h9) (fun ha=>⟨hnas ha,hnr ha⟩) (Nat.le_refl _) (fun j h=>by have:=hA j h; omega) fun O8 N8 td8 t8 p8 e8 ex8 h8'=>?_
    refine ot ziF ?_
    have nn8:=ex8.1
    have low8:∀ j,j<N→j≠mk→O8.get j=O.get j:=fun j h1 h2=>(ex8.2 j (by omega)).trans (low7 j h1 h2)
    have m8:=m7.same (fun j hj=>ex8.2 j (by omega)) (ex8.2 mk (by omega))
    refine ku (M:=MadeT an) (MadeT.leaf (by decide) (by decide) (fun _=>by decide)) (fun h=>⟨(h8' h).1,(h8' h).2⟩) (fun j h=>by have:=hA j h; omega) fun O9 N9 td9 t9 p9 ex9 tx9 md9=>?_
    have nn9:=ex9.1
    exact ot zdd (hK O9 N9 _ _ _ t9 p9 (by omega) (fun j h1 h2=>(ex9.2 j (by omega)).trans (low8 j h1 h2)) (m8.same (fun j hj=>ex9.2 j (by omega)) (ex9.2 mk (by omega))) tx9 md9)
   ·
    refine zg2 (mk:=A) vs hls hus hrs (Nat.le_refl _) (fun j h=>by have:=hA j h; omega) fun O8 N8 td8 p8 ex8 tx8=>?_
    refine ot zi3 ?_
    have nn8:=ex8.1
    have low8:∀ j,j<N→j≠mk→O8.get j=O.get j:=fun j h1 h2=>(ex8.2 j (by omega)).trans (low7 j h1 h2)
    have m8:=m7.same (fun j hj=>ex8.2 j (by omega)) (ex8.2 mk (by omega))
    refine ku (M:=MadeT an) (MadeT.leaf (by decide) (by decide) (fun _=>by decide)) (fun h=>⟨tx8,zdc h hnas⟩) (fun j h=>by have:=hA j h; omega) fun O9 N9 td9 t9 p9 ex9 tx9 md9=>?_
    have nn9:=ex9.1
    exact ot zdp (hK O9 N9 _ _ _ t9 p9 (by omega) (fun j h1 h2=>(ex9.2 j (by omega)).trans (low8 j h1 h2)) (m8.same (fun j hj=>ex9.2 j (by omega)) (ex9.2 mk (by omega))) tx9 md9)
 have stC:∀ (d':Nat),d=d'+1→zoy hi mk an d'→∀ (O4:T AObj) (zs:List UInt8) (n4:Int) (a:Nat),(∀ j,j<N→j≠mk→O4.get j=O.get j)→MKo O4 hi mk zs n4 an→a<ts.length→Goal P keep f0 Q (Wnec q ((d:Nat):Int) ((a:Nat):Int) mk rest O4 N G):=by
  intro d' hd near O4 zs n4 a low4 m4 ha
  have obO4:=obq0.same (low4 q hqN hqm)
  have vaO4:SV O4 1 pE 0 N ps sa2:=va0.same (fun h=>low4 _ (va0.sid_lt h).2 (fun e=>ma0 h (e▸hAm))) (Nat.le_refl _) (Nat.le_refl _)
  have vnO4:SV O4 1 sE 0 N ns sn2:=vn0.same (fun h=>low4 _ (vn0.sid_lt h).2 (fun e=>mn0 h (e▸hAm))) (Nat.le_refl _) (Nat.le_refl _)
  have mvO4:∀ {x:Ty} {y:Option Nat} {M:Nat},N≤M→Tra O N A x y→Tra O4 M A x y:=fun hM h=>h.same (fun j h1 h2=>low4 j h1 (fun e=>h2 (e▸hAm))) hM
  have w1:IntKind.i64.wrap (((d:Nat):Int) - (1:Int))=((d':Nat):Int):=by rw [IntKind.wrap_i64,hd]; omega
  obtain ⟨x,hx,hxm⟩:=nth (l:=ts) (j:=a) ha
  obtain ⟨y,hy,hym⟩:=nth (l:=ps) (j:=a) (by omega)
  have g0:GV O4 23 1 pE N N ([]:List (Option Nat)) (.nils 0 0):=GV.nil
  obtain ⟨O5,N5,s1,ea,g5,n5,n5',f5,_,hsl⟩:=g0.app2 pSl pEn vaO4 (Nat.le_refl _) (by simp only [List.length_nil]; omega) G
  rw [List.nil_append] at g5
  have hne:s1≠.nils 0 0:=fun h=>by
   obtain ⟨_,_,_,_,_,e⟩:=hsl (fun e=>by rw [e] at hy; cases hy)
   rw [h] at e
   cases e
  have hs5:=g5.sid_lt hne
  have low5:∀ j,j<N→O5.get j=O4.get j:=fun j hj=>f5 j hj (fun h=>absurd rfl h)
  obtain ⟨i1v,i2v,i3v,loI,hiI,eI,rdI,_⟩:=(g5.sv pEn).at pSl pEn hy
  have toS:∀ {x:Ty} {y:Option Nat},Tra O N A x y→Tra O5 N5 (AvS A s1) x y:=fun h=>((h.same (O':=O5) (fun j h1 h2=>(low5 j h1).trans (low4 j h1 (fun e=>h2 (e▸hAm)))) (Nat.le_refl _)).imp fun j hj hb=>hb.elim id fun h=>by omega).same (fun _ _ _=>rfl) n5
  have m5:=m4.same (O':=O5) (fun j hj=>low5 j (by omega)) (low5 mk (by omega))
  have mdx:MadeT an x:=zdo (oks x hxm) (by have:=zA hxm; rw [xj] at c60; omega) (fun ha=>(qM (hna ha)).2.1 x hxm)
  refine ot (t_nec (sa2:=sa2)) ⟨s1,O5,N5,_,_,_,(pv y),obO4.ld 3 rfl,ea,eI,rdI.load rfl _ _,?_⟩
  rw [w1]
  refine near (A:=AvS A s1) m5 (by omega) (fun j hj=>hj.elim (fun h=>by have:=hA j h; omega) fun h=>by omega) (.inl hAm) (toS (h8 a x y hx hy)) mdx fun O6 N6 td6 zs6 n6 t6 p6 hN6 hO6 m6 tx6 md6=>?_
  have g6:=g5.same (O':=O6) (fun _=>hO6 _ hs5.2 (by omega)) (Nat.le_refl _) hN6
  obtain ⟨ri,z,off,O7,e1,e2,v7,f7,hri,_⟩:=g6.put (b:=p6) pSl pEn hy (hsl (fun e=>by rw [e] at hy; cases hy)) N6 G
  have low7:∀ j,j<N→j≠mk→O7.get j=O.get j:=fun j h1 h2=>(f7 j (by omega)).trans ((hO6 j (by omega) h2).trans ((low5 j h1).trans (low4 j h1 h2)))
  have m7:=m6.same (O':=O7) (fun j hj=>f7 j (by omega)) (f7 mk (by omega))
  have toA:∀ {x:Ty} {y:Option Nat},Tra O6 N6 (AvS A s1) x y→Tra O7 N6 A x y:=fun h=>(h.same (fun j h1 h2=>f7 j (fun e=>h2 (.inr ⟨hne,by omega⟩))) (Nat.le_refl _)).imp fun _ _ h=>.inl h
  have nx:=stD O7 N6 zs6 n6 (ts.set a t6) (ps.set a p6) s1 (by omega) low7 m7 (v7.keep (fun _ _ _=>rfl) (Nat.zero_le _) (Nat.le_refl _)) (by rw [List.length_set,List.length_set,hl]) (by rw [List.length_set]; omega) (zo6 (fun j x y h1 h2=>toA ((toS (h8 j x y h1 h2)).same (fun i h1 h2=>hO6 i h1 (fun e=>h2 (.inl (e▸hAm)))) hN6)) (toA tx6)) (fun ha w hw=>(List.mem_or_eq_of_mem_set hw).elim (fun h=>(qM (hna ha)).2.1 w h) (fun h=>h▸(by obtain ⟨_,_,_,_,_,_,_,_,_,_,w⟩:=md6; exact w ha)))
  exact ot zm2 ⟨ri,z,off,_,e1,(by rw [zmQ]; exact ⟨rfl,e2⟩),nx⟩
 have stE:∀ (d':Nat),d=d'+1→zoy hi mk an d'→∀ (O4:T AObj) (zs:List UInt8) (n4:Int) (a:Nat) (j:Int),(∀ j,j<N→j≠mk→O4.get j=O.get j)→MKo O4 hi mk zs n4 an→a<ts.length→Goal P keep f0 Q (Wnee q ((d:Nat):Int) j ((a:Nat):Int) mk rest O4 N G):=by
  intro d' hd near O4 zs n4 a j low4 m4 ha
  have cc:=stC d' hd near O4 zs n4 a low4 m4 ha
  have obO4:=obq0.same (low4 q hqN hqm)
  have vaO4:SV O4 1 pE 0 N ps sa2:=va0.same (fun h=>low4 _ (va0.sid_lt h).2 (fun e=>ma0 h (e▸hAm))) (Nat.le_refl _) (Nat.le_refl _)
  have vnO4:SV O4 1 sE 0 N ns sn2:=vn0.same (fun h=>low4 _ (vn0.sid_lt h).2 (fun e=>mn0 h (e▸hAm))) (Nat.le_refl _) (Nat.le_refl _)
  have mvO4:∀ {x:Ty} {y:Option Nat} {M:Nat},N≤M→Tra O N A x y→Tra O4 M A x y:=fun hM h=>h.same (fun j h1 h2=>low4 j h1 (fun e=>h2 (e▸hAm))) hM
  have w1:IntKind.i64.wrap (((d:Nat):Int) - (1:Int))=((d':Nat):Int):=by rw [IntKind.wrap_i64,hd]; omega
  refine ot (t_nee (k2:=k2) (sa2:=sa2) (rp2:=pv qr)) ⟨fun hc12=>?_,fun hc12=>?_⟩
  ·
   refine ⟨obO4.ld 0 rfl,fun hc13=>?_,fun hc13=>?_⟩
   ·
    refine ⟨obO4.ld 3 rfl,obO4.ld 4 rfl,?_⟩
    have h8k:k2=8:=by simpa using hc13
    have mdr:MadeT an r:=zdo (k8 h8k) (by rw [xj] at c60; omega) hnr
    rw [w1]
    refine near m4 hmN hA hAm (mvO4 (Nat.le_refl _) h9) mdr fun O5 N5 td5 zs5 n5 t5 p5 hN5 hO5 m5 tx5 md5=>?_
    have low5:∀ j,j<N→j≠mk→O5.get j=O.get j:=fun j h1 h2=>(hO5 j h1 h2).trans (low4 j h1 h2)
    have obO5:=obq0.same (low5 q hqN hqm)
    have vaO5:SV O5 1 pE 0 N ps sa2:=va0.same (fun h=>low5 _ (va0.sid_lt h).2 (fun e=>ma0 h (e▸hAm))) (Nat.le_refl _) (Nat.le_refl _)
    have vnO5:SV O5 1 sE 0 N ns sn2:=vn0.same (fun h=>low5 _ (vn0.sid_lt h).2 (fun e=>mn0 h (e▸hAm))) (Nat.le_refl _) (Nat.le_refl _)
    have mvO5:∀ {x:Ty} {y:Option Nat} {M:Nat},N≤M→Tra O N A x y→Tra O5 M A x y:=fun hM h=>h.same (fun j h1 h2=>low5 j h1 (fun e=>h2 (e▸hAm))) hM
    refine ot (zjA (sa2:=sa2)) ⟨trivial,obO5.ld 3 rfl,zbB vaO5,?_⟩
    refine zg1 (mk:=A) (an:=an) (vaO5.keep (fun _ _ _=>rfl) (Nat.le_refl _) hN5) hl (by omega) (fun j x p a b=>mvO5 hN5 (h8 j x p a b)) tx5 (fun ha=>⟨(qM (hna ha)).2.1,(by obtain ⟨_,_,_,_,_,_,_,_,_,_,w⟩:=md5; exact w ha)⟩) (Nat.le_refl _) (fun j h=>by have:=hA j h; omega) fun O8 N8 td8 t8 p8 e8 ex8 h8'=>?_
    refine ot zc0 ?_
    have nn8:=ex8.1
    have low8:∀ j,j<N→j≠mk→O8.get j=O.get j:=fun j h1 h2=>(ex8.2 j (by omega)).trans (low5 j h1 h2)
    have m8:=m5.same (fun j hj=>ex8.2 j (by omega)) (ex8.2 mk (by omega))
    refine ku (M:=MadeT an) (MadeT.leaf (by decide) (by decide) (fun _=>by decide)) (fun h=>⟨(h8' h).1,(h8' h).2⟩) (fun j h=>by have:=hA j h; omega) fun O9 N9 td9 t9 p9 ex9 tx9 md9=>?_
    have nn9:=ex9.1
    exact ot zak (hK O9 N9 _ _ _ t9 p9 (by omega) (fun j h1 h2=>(ex9.2 j (by omega)).trans (low8 j h1 h2)) (m8.same (fun j hj=>ex9.2 j (by omega)) (ex9.2 mk (by omega))) tx9 md9)
   ·
    exact cc
  ·
   exact cc
 have stB:∀ (O2:T AObj) (zs:List UInt8) (n2 j:Int),(∀ j,j<N→j≠mk→O2.get j=O.get j)→MKo O2 hi mk zs n2 an→0≤j→(d=0→j<2)→Goal P keep f0 Q (Wneb q ((d:Nat):Int) j mk rest O2 N G):=by
  intro O2 zs n2 j low2 m2 hj0 hj2
  have own:∀ td,Goal P keep f0 Q (AM.mk (RF 40 133 (tX tZ (tX tZ (tY (.ptr q 0 0)))) td) rest ⟨O2,N,G⟩):=fun td=>hK O2 N td zs n2 _ (some q) (Nat.le_refl _) low2 m2 (tt.same (fun j h1 h2=>low2 j h1 (fun e=>h2 (e▸hAm))) (Nat.le_refl _)) md
  have obO2:=obq0.same (low2 q hqN hqm)
  have vaO2:SV O2 1 pE 0 N ps sa2:=va0.same (fun h=>low2 _ (va0.sid_lt h).2 (fun e=>ma0 h (e▸hAm))) (Nat.le_refl _) (Nat.le_refl _)
  have vnO2:SV O2 1 sE 0 N ns sn2:=vn0.same (fun h=>low2 _ (vn0.sid_lt h).2 (fun e=>mn0 h (e▸hAm))) (Nat.le_refl _) (Nat.le_refl _)
  have mvO2:∀ {x:Ty} {y:Option Nat} {M:Nat},N≤M→Tra O N A x y→Tra O2 M A x y:=fun hM h=>h.same (fun j h1 h2=>low2 j h1 (fun e=>h2 (e▸hAm))) hM
  refine ot (t_neb (sa2:=sa2)) ⟨fun hc15=>?_,fun hc15=>?_⟩
  ·
   refine zn8 (A:=A) m2 hmN hA hAm fun O3 N3 td3 ys3 n3 t1 p1 hN3 hO3 m3 tx3 md3=>?_
   have low3:∀ j,j<N→j≠mk→O3.get j=O.get j:=fun j h1 h2=>(hO3 j h1 h2).trans (low2 j h1 h2)
   have obO3:=obq0.same (low3 q hqN hqm)
   have vaO3:SV O3 1 pE 0 N ps sa2:=va0.same (fun h=>low3 _ (va0.sid_lt h).2 (fun e=>ma0 h (e▸hAm))) (Nat.le_refl _) (Nat.le_refl _)
   have vnO3:SV O3 1 sE 0 N ns sn2:=vn0.same (fun h=>low3 _ (vn0.sid_lt h).2 (fun e=>mn0 h (e▸hAm))) (Nat.le_refl _) (Nat.le_refl _)
   have mvO3:∀ {x:Ty} {y:Option Nat} {M:Nat},N≤M→Tra O N A x y→Tra O3 M A x y:=fun hM h=>h.same (fun j h1 h2=>low3 j h1 (fun e=>h2 (e▸hAm))) hM
   obtain ⟨OL,el,vL,fL⟩:=zlz pEn (some q) p1 O3 N3 G (st:=33) (el:=23) (v:=.ptr q 0 0) (w:=pv p1) (litPP q p1)
   refine ot zlO ⟨_,el,?_⟩
   refine zg2 (mk:=A) (ts:=[.mk k2 nm ns ts r,t1]) (vL.keep (fun _ _ _=>rfl) (Nat.zero_le _) (Nat.le_refl _)) rfl (by simp) (rel2 ((mvO3 hN3 tt).same (fun i h1 _=>fL i (by omega)) (by omega)) (tx3.same (fun i h1 _=>fL i (by omega)) (by omega))) (Nat.le_refl _) (fun j h=>by have:=hA j h; omega) fun O8 N8 td8 p8 ex8 tx8=>?_
   refine ot zfC ?_
   have lowL:∀ j,j<N→j≠mk→OL.get j=O.get j:=fun j h1 h2=>(fL j (by omega)).trans (low3 j h1 h2)
   have mL:=m3.same (O':=OL) (fun j hj=>fL j (by omega)) (fL mk (by omega))
   have nn8:=ex8.1
   have low8:∀ j,j<N→j≠mk→O8.get j=O.get j:=fun j h1 h2=>(ex8.2 j (by omega)).trans (lowL j h1 h2)
   have m8:=mL.same (fun j hj=>ex8.2 j (by omega)) (ex8.2 mk (by omega))
   refine ku (M:=MadeT an) (MadeT.leaf (by decide) (by decide) (fun _=>by decide)) (fun h=>⟨tx8,zdc h (fun ha x hx=>by rcases List.mem_cons.1 hx with h | h; exact h▸hna ha; rw [List.mem_singleton] at h; exact h▸(by obtain ⟨_,_,_,_,_,_,_,_,_,_,w⟩:=md3; exact w ha))⟩) (fun j h=>by have:=hA j h; omega) fun O9 N9 td9 t9 p9 ex9 tx9 md9=>?_
   have nn9:=ex9.1
   exact ot zbh (hK O9 N9 _ _ _ t9 p9 (by omega) (fun j h1 h2=>(ex9.2 j (by omega)).trans (low8 j h1 h2)) (m8.same (fun j hj=>ex9.2 j (by omega)) (ex9.2 mk (by omega))) tx9 md9)
  ·
   refine ⟨fun hc16=>?_,fun hc16=>?_⟩
   ·
    refine one2 (A:=A) m2 hmN hA hAm fun O3 N3 td3 ys3 n3 t1 p1 hN3 hO3 m3 tx3 md3=>?_
    have low3:∀ j,j<N→j≠mk→O3.get j=O.get j:=fun j h1 h2=>(hO3 j h1 h2).trans (low2 j h1 h2)
    exact ot ziP (hK O3 N3 _ ys3 n3 t1 p1 hN3 low3 m3 tx3 md3)
   ·
    refine ⟨fun hc17=>?_,fun hc17=>?_⟩
    ·
     exact own _
    ·
     refine ⟨_,obO2.ld 3 rfl,vaO2.lenE pSl hl _ _,fun hc18=>?_,fun hc18=>?_⟩
     ·
      exact own _
     ·
      refine ⟨_,obO2.ld 3 rfl,vaO2.lenE pSl hl _ _,?_⟩
      have hj3:¬ d=0:=fun h=>by
       have h1:=beq_eq_false_iff_ne.1 hc15
       have h2:=beq_eq_false_iff_ne.1 hc16
       have h3:=beq_eq_false_iff_ne.1 hc17
       have h4:=hj2 h
       have h5:=hj0
       have h6:j≠1:=h1
       have h7:j≠0:=h3
       omega
      have hlen:0<ts.length:=by
       have:=beq_eq_false_iff_ne.1 hc18
       omega
      obtain ⟨d',hd,near⟩:=hrec.resolve_left hj3
      refine qb m2 hmk (n:=((ts.length:Nat):Int)) (by omega) fun O4 td4 c zs4 hl4 c0 c1 f4 m4=>?_
      obtain ⟨a,rfl⟩:∃ a:Nat,c=((a:Nat):Int):=⟨c.toNat,by omega⟩
      have low4:∀ j,j<N→j≠mk→O4.get j=O.get j:=fun j h1 h2=>(f4 j h2).trans (low2 j h1 h2)
      have ee:=stE d' hd near O4 zs4 n2 a j low4 m4 (by omega)
      have obO4:=obq0.same (low4 q hqN hqm)
      have vaO4:SV O4 1 pE 0 N ps sa2:=va0.same (fun h=>low4 _ (va0.sid_lt h).2 (fun e=>ma0 h (e▸hAm))) (Nat.le_refl _) (Nat.le_refl _)
      have vnO4:SV O4 1 sE 0 N ns sn2:=vn0.same (fun h=>low4 _ (vn0.sid_lt h).2 (fun e=>mn0 h (e▸hAm))) (Nat.le_refl _) (Nat.le_refl _)
      have mvO4:∀ {x:Ty} {y:Option Nat} {M:Nat},N≤M→Tra O N A x y→Tra O4 M A x y:=fun hM h=>h.same (fun j h1 h2=>low4 j h1 (fun e=>h2 (e▸hAm))) hM
      refine ot (ze8 (k2:=k2)) ⟨fun hc20=>?_,fun hc20=>?_⟩
      ·
       refine ⟨obO4.ld 0 rfl,fun hc21=>?_,fun hc21=>?_⟩
       ·
        have h7k:k2=7:=by simpa using hc21
        refine zpV (an:=an) obO4 hqN vnO4 vaO4 hl (k7 h7k) (by omega) (fun j x p a b=>mvO4 (Nat.le_refl _) (h8 j x p a b)) (fun ha=>(qM (hna ha)).2.1) hA fun O8 N8 td8 t8 p8 ex8 tx8 md8=>?_
        exact ot jL (hK O8 N8 _ zs4 n2 t8 p8 ex8.1 (fun j h1 h2=>(ex8.2 j h1).trans (low4 j h1 h2)) (m4.same (fun j hj=>ex8.2 j (by omega)) (ex8.2 mk hmN)) tx8 md8)
       ·
        exact ee
      ·
       exact ee
 refine ot t_nea ?_
 refine qb hm hmk (n:=6) (by omega) fun O1 td1 c ys hl1 c0 c6 f1 m1=>?_
 refine ot zmt ⟨fun hc23=>?_,fun hc23=>?_⟩
 ·
  refine qb m1 hmk (n:=2) (by omega) fun O2 td2 c2 ys2 hl2 c20 c22 f2 m2=>?_
  exact ot zft (stB O2 ys2 _ c2 (fun j _ h2=>(f2 j h2).trans (f1 j h2)) m2 c20 (fun _=>c22))
 ·
  exact stB O1 ys _ c (fun j _ h2=>f1 j h2) m1 c0 (fun h=>by have:=of_decide_eq_false hc23; omega)
theorem zpA {hi mk:Nat}{an:Bool}(hmk:hi≤mk)(d:Nat)(hd:d≤1000):zoy hi mk an d:=by
 induction d with
 | zero=>exact zfA hmk hd (.inl rfl)
 | succ d ih =>
  have near:zoy hi mk an d:=ih (by omega)
  have h:d+1=0∨∃ d',d+1=d'+1∧zoy hi mk an d':=.inr ⟨d,rfl,@near⟩
  exact @zfA hi mk (d+1) an hmk hd h
end Go.Proofs.Ytcdigdplhlgcaaa.gx
end
section
set_option maxRecDepth 100000
set_option linter.unusedVariables false
set_option linter.unusedSectionVars false
set_option linter.unusedSimpArgs false
namespace Go.Proofs.Ytcdigdplhlgcaaa.gx
open Go Ev tp
section
variable (sn sa prq0 prq1 prq2:AV) (crq4:Int)
noncomputable def Ftwo:AFrame:=⟨29,24,(tX (tY sn) (tX (tX (tY sa) tZ) tZ)),   [.ops (rg P 29 [1,0]).toList ((rg P 29 [1,0]).toList.drop 1),.code (cd P 29 [1,1])],[],.run,CallKind.normal,none⟩
noncomputable def zj6:AFrame:=⟨29,24,(tX (tW tZ sn (tX (tY prq0) tZ)) tZ),   [.ops (rg P (29:FuncId) [1,0]).toList ((rg P (29:FuncId) [1,0]).toList.drop 2),.code (cd P (29:FuncId) [1,1])],[],.run,CallKind.normal,none⟩
noncomputable def zcr:AFrame:=⟨29,24,(tX (tX (tX tZ (tY sn)) tZ) (tX tZ (tY prq1))),   [.ops (rg P 29 [1,1,0]).toList ((rg P 29 [1,1,0]).toList.drop 1),.code (cd P 29 [1,1,1])],[],.run,CallKind.normal,none⟩
noncomputable def kp:AFrame:=⟨29,24,(tX (tX (tX (tY prq2) tZ) (tX tZ (tY prq2))) (tX tZ (tY prq1))),   [.ops (rg P 29 [1,1,1,0,0]).toList ((rg P 29 [1,1,1,0,0]).toList.drop 1),.code (cd P 29 [1,1,1,0,1]),.code (cd P 29 [1,1,1,1])],[],.run,CallKind.normal,none⟩
noncomputable def qC:AFrame:=⟨29,24,(tX (tX tZ (tX (tX (tY prq2) tZ) tZ)) (tX (tX (tX (tY prq1) tZ) tZ) tZ)),   [.ops (rg P 29 [1,1,1,0,1,0,0]).toList ((rg P 29 [1,1,1,0,1,0,0]).toList.drop 2),.code (cd P 73 [1,0,1,0,1]),.code (cd P (29:FuncId) [1,1,1,1])],[],.run,CallKind.normal,none⟩
noncomputable def qA:AFrame:=⟨29,24,(tX (tX tZ (tX tZ (tX (tY prq2) tZ))) (tX (tX tZ (tX (tY prq1) tZ)) (tX tZ (tX (tY prq1) tZ)))),   [.ops (rg P 29 [1,1,1,1,0]).toList ((rg P 29 [1,1,1,1,0]).toList.drop 3),.code (cd P 73 [1,0,1,0,1])],[],.run,CallKind.normal,none⟩
noncomputable def yp:AFrame:=⟨29,24,(tX tZ (tX (tX (tX (tY prq1) tZ) tZ) (tX (tX (tY (.int .i64 crq4)) tZ) tZ))),   [.ops (rg P (29:FuncId) [1,1,1,0,1,0,0]).toList ((rg P (29:FuncId) [1,1,1,0,1,0,0]).toList.drop 3),.code (cd P (73:FuncId) [1,0,1,0,1]),.code (cd P (29:FuncId) [1,1,1,1])],[],.run,CallKind.normal,none⟩
end
section
variable {R:AV→AHeap→Prop} {keep N:Nat} {f0:FuncId} {rest:List AFrame} {O:T AObj} {sn sa prq0 prq1 prq2 prq5 prq4:AV} {G:T (T AV)} {K:AM→Prop} {td:List AItem} {crq3 crq4:Int}
theorem t_two:(K (AM.mk (enF 38 [sa,.bool true]) ((Ftwo sn sa)::rest) ⟨O,N,G⟩))=OT f0 R keep K (.seq [.run 8,.keep [1,8],.run 1] .fin) ((AM.mk (enF 29 [sa,sn]) rest ⟨O,N,G⟩)):=by kernel_rfl
theorem zmm:(K (AM.mk (enF 39 [prq0,.int .i64 3]) ((zj6 sn prq0)::rest) ⟨O,N,G⟩))=OT f0 R keep K (.seq [.run 1,.keep [1,9],.run 1] .fin) ((AM.mk (RF 38 13 (tX tZ (tX (tY prq0) tZ)) td) ((Ftwo sn sa)::rest) ⟨O,N,G⟩)):=by kernel_rfl
theorem zgy:(K (AM.mk (enF 38 [sn,.bool true]) ((zcr sn prq1)::rest) ⟨O,N,G⟩))=OT f0 R keep K (.seq [.run 6,.keep [6,11],.run 1] .fin) ((AM.mk (RF 39 78 (tX tZ (tX (tY prq1) tZ)) td) ((zj6 sn prq0)::rest) ⟨O,N,G⟩)):=by kernel_rfl
theorem zci:(K (AM.mk (enF 73 [prq2,.int .i64 20]) ((kp prq1 prq2)::rest) ⟨O,N,G⟩))=OT f0 R keep K (.seq [.run 7,.keep [6,7,13],.run 1] .fin) ((AM.mk (RF 38 13 (tX tZ (tX (tY prq2) tZ)) td) ((zcr sn prq1)::rest) ⟨O,N,G⟩)):=by kernel_rfl
theorem jC:((((crq3==(19:Int)))=true→(K (AM.mk (enF 73 [prq2,.int .i64 6]) ((qC prq1 prq2)::rest) ⟨O,N,G⟩)))∧(((crq3==(19:Int)))=false→(K (AM.mk (enF 40 [prq2,prq1,.int .i64 3]) ((qA prq1 prq2)::rest) ⟨O,N,G⟩))))=OT f0 R keep K (.seq [.run 3] (.fork 15 (.seq [.run 5,.keep [16,17],.run 1] .fin) (.seq [.run 7,.keep [20,21,22],.run 1] .fin))) ((AM.mk (RF 73 30 (tX tZ (tX (tY (.int .i64 crq3)) tZ)) td) ((kp prq1 prq2)::rest) ⟨O,N,G⟩)):=by kernel_rfl
theorem wP:(K (AM.mk (enF 74 [.int .i64 crq4]) ((yp prq1 crq4)::rest) ⟨O,N,G⟩))=OT f0 R keep K (.seq [.run 1,.keep [16,18],.run 1] .fin) ((AM.mk (RF 73 30 (tX tZ (tX (tY (.int .i64 crq4)) tZ)) td) ((qC prq1 prq2)::rest) ⟨O,N,G⟩)):=by kernel_rfl
theorem qt:(K (AM.mk (RF 29 24 (tX (tX tZ (tY prq5)) (tX (tY prq1) tZ)) [.code (cd P (73:FuncId) [1,0,1,0,1]),.code (cd P (29:FuncId) [1,1,1,1])]) rest ⟨O,N,G⟩))=OT f0 R keep K (.seq [.run 5,.keep [4,5]] .fin) ((AM.mk (RF 74 31 (tX tZ (tY prq5)) td) ((yp prq1 crq4)::rest) ⟨O,N,G⟩)):=by kernel_rfl
theorem wR:(K (AM.mk (RF 29 24 (tX (tX tZ (tY prq4)) (tX (tY prq1) tZ)) [.code (cd P (73:FuncId) [1,0,1,0,1])]) rest ⟨O,N,G⟩))=OT f0 R keep K (.seq [.run 5,.keep [4,5]] .fin) ((AM.mk (RF 40 133 (tX tZ (tX tZ (tY prq4))) td) ((qA prq1 prq2)::rest) ⟨O,N,G⟩)):=by kernel_rfl
end
variable {O O':T AObj} {N:Nat} {G:T (T AV)}
theorem zqT {hi:Nat}{xs ys:List UInt8}{sa sn:AV}(hx:SVe O hi xs sa)(hy:SVe O hi ys sn)(hN:hi≤N){keep:Nat}{f0:FuncId}{Q:AV→AHeap→Prop}{rest:List AFrame}
 (hK:∀ O' N' td a b pa pb,Tr O' N' a pa→Tr O' N' b pb→Goal P keep f0 Q (AM.mk (RF 29 24 (tX (tX tZ (tY (pv pb))) (tX (tY (pv pa)) tZ)) td) rest ⟨O',N',G⟩)):Goal P keep f0 Q (AM.mk (enF 29 [sa,sn]) rest ⟨O,N,G⟩):=by
 refine ot t_two ?_
 refine zl0 hx hN fun O1 td1 ex1 m1=>?_
 refine ot zmm ?_
 have one:ONE hi N true 3:=zgf hN 3 (by decide)
 refine one (A:=fun j=>j=N) m1 (Nat.lt_succ_self N) (fun j h=>by omega) rfl fun O2 N2 td2 ys2 n2 b pb hN2 hO2 m2 tb mb=>?_
 refine ot zgy ?_
 have lo2:∀ j,j<N→O2.get j=O.get j:=fun j hj=>(hO2 j (by omega) (by omega)).trans (ex1.2 j hj)
 refine zl0 (hy.keep fun j hj=>lo2 j (by omega)) (show hi≤N2 by omega) fun O3 td3 ex3 m3=>?_
 refine ot zci ?_
 have hmk3:hi≤N2:=by omega
 refine qb m3 hmk3 (n:=20) (by omega) fun O4 td4 c ys4 hl4 c0 c20 f4 m4=>?_
 have tb3:Tra O3 N2 (fun j=>j=N2) b pb:=(Tra.of tb.tr (fun j h1 h2=>by omega)).same (fun j h1 h2=>ex3.2 j h1) (Nat.le_refl _)
 have tb4:Tra O4 (N2+1) (fun j=>j=N2) b pb:=tb3.same (fun j h1 h2=>f4 j h2) (Nat.le_succ N2)
 refine ot jC ⟨fun hc2=>?_,fun hc2=>?_⟩
 ·
  refine qb m4 hmk3 (n:=6) (by omega) fun O5 td5 c5 ys5 hl5 c50 c56 f5 m5=>?_
  refine ot wP ?_
  refine zqL fun O6 N6 td6 a pa ex6 ta=>?_
  refine ot qt ?_
  have tb6:=(tb4.same (O':=O5) (fun j h1 h2=>f5 j h2) (Nat.le_refl _)).same (O':=O6) (fun j h1 h2=>ex6.2 j h1) ex6.1
  exact hK O6 N6 _ b a pb pa tb6.tr ta
 ·
  have near:zoy hi N2 true 3:=zpA hmk3 3 (by decide)
  refine near (A:=fun j=>j=N2) m4 (Nat.lt_succ_self N2) (fun j h=>by omega) rfl tb4 mb fun O5 N5 td5 ys5 n5 a pa hN5 hO5 m5 ta ma=>?_
  refine ot wR ?_
  exact hK O5 N5 _ b a pb pa (tb4.same (O':=O5) (fun j h1 h2=>hO5 j h1 h2) hN5).tr ta.tr
end Go.Proofs.Ytcdigdplhlgcaaa.gx
end
section
set_option maxRecDepth 100000
set_option linter.unusedVariables false
set_option linter.unusedSectionVars false
namespace Go.Proofs.Ytcdigdplhlgcaaa.gx
open Go Ev tp
theorem bi_of {n:Int}(h:(Lit.int .u8 n).wf=true):bi (UInt8.ofNat n.toNat)=n:=by
 have hb:0≤n∧n≤255:=by
  have:=bounds_u8 h
  omega
 unfold bi
 rw [UInt8.toNat_ofNat']
 omega
theorem zgt {l:List Inp}{G:T (T AV)}{i:Nat}{x:Inp}(h:l[i]?=some x):(jz l G).objs.get i=x.obj:=by
 show (vN l 0 .leaf).get i=_
 rw [v6,if_pos ⟨Nat.zero_le _,by have:=(List.getElem?_eq_some_iff.1 h).1; omega⟩,Nat.sub_zero,h]
 rfl
theorem zmO {xs:List UInt8}:∀ {k:Nat},(xs.flatMap bE)[k]?=xs[k]?.map fun c=>AV.int .u8 (bi c):=by
 induction xs with
 | nil=>intro k; simp
 | cons x xs ih =>
  intro k
  rw [List.flatMap_cons]
  cases k with
  | zero=>rfl
  | succ k =>
   show ([AV.int .u8 (bi x)]++xs.flatMap bE)[k+1]?=_
   rw [List.cons_append,List.nil_append,List.getElem?_cons_succ,List.getElem?_cons_succ]
   exact ih
theorem zhw {w:World}{v:Value}(h:v=.slice none 0 0∨∃ (a:Addr) (len cap:Nat) (zs:List Int),v=.slice (some a) len cap∧len≤cap∧cap≤maxLen∧zs.length=cap∧(∀ i,i<zs.length→w.cell? (a.add i)=some (.int .u8 (zs.getD i 0)))∧(∀ n∈zs,(Lit.int .u8 n).wf=true)) :
 ∃ (x:Inp) (s:Nat→AV) (xs:List UInt8),x.holds w∧∀ (l:List Inp) (i:Nat) (G:T (T AV)),l[i]?=some x→VRel (kE l) (s i) v∧SVe (jz l G).objs l.length xs (s i):=by
 rcases h with rfl | ⟨a,len,cap,zs,rfl,hl,_,hz,hc,hwf⟩
 · exact ⟨⟨false,0,.leaf,0,0⟩,fun _=>.nils 0 0,[],fun h=>(by cases h),fun l i G e=>⟨rfl,.inl SV.nil⟩⟩
 · by_cases h0:cap=0
   · subst h0
     obtain rfl:len=0:=by omega
     exact ⟨⟨false,0,.leaf,0,0⟩,fun _=>.sle,[],fun h=>(by cases h),fun l i G e=>⟨⟨a,rfl⟩,.inr ⟨rfl,rfl⟩⟩⟩
   · obtain ⟨b,off,rfl,hold⟩:=zrl (w:=w) (a:=a) (n:=cap) (f:=fun i=>.int .u8 (zs.getD i 0)) (g:=fun i=>.int .u8 (zs.getD i 0)) (fun i hi=>hc i (by omega)) (fun i _=>rfl) (by omega)
     have hxl:((zs.take len).map fun n=>UInt8.ofNat n.toNat).length=len:=by rw [List.length_map,List.length_take]; omega
     refine ⟨_,fun i=>.slc i 0 off len cap,(zs.take len).map fun n=>UInt8.ofNat n.toNat,hold,fun l i G e=>⟨⟨⟨b,0,0⟩,?_,Nat.zero_le _,rfl⟩,.inl (.inr (.inl ⟨i,0,off,cap,by rw [hxl],by rw [hxl]; exact hl,Nat.zero_le _,(List.getElem?_eq_some_iff.1 e).1,.inr ⟨_,off,off+cap,(zgt e).trans rfl,rfl,Nat.le_refl _,?_,fun k hk=>?_⟩⟩))⟩⟩
     · unfold kE
       rw [if_pos rfl,e]
     · rw [bEn.flat,hxl]
       omega
     · rw [bEn.flat,hxl] at hk
       rw [zmO]
       show some (AV.int .u8 (zs.getD (off+k - off) 0))=_
       rw [Nat.add_sub_cancel_left,List.getElem?_map,List.getElem?_take_of_lt (by omega),List.getD_eq_getElem?_getD,List.getElem?_eq_getElem (by omega)]
       show some (AV.int .u8 zs[k])=some (AV.int .u8 (bi (UInt8.ofNat (zs[k]).toNat)))
       rw [bi_of (hwf _ (List.getElem_mem _))]
theorem zo0 {G:T (T AV)}:Goal P 0 34 (fun x _=>x=AV.bool true) (zn5 P 34 [] G):=Goal.ofRun mix (n:=100000) (by kernel_rfl) fun _=>rfl
end Go.Proofs.Ytcdigdplhlgcaaa.gx
end
