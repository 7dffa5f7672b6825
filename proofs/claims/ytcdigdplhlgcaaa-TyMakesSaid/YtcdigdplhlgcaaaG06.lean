import Derived.Test.YtcdigdplhlgcaaaG00
import Derived.Test.YtcdigdplhlgcaaaG01
import Derived.Test.YtcdigdplhlgcaaaG02
import Derived.Test.YtcdigdplhlgcaaaG03
import Derived.Test.YtcdigdplhlgcaaaG04
import Derived.Test.YtcdigdplhlgcaaaG05
section
set_option maxRecDepth 100000
set_option linter.unusedVariables false
set_option linter.unusedSectionVars false
set_option linter.unusedSimpArgs false
namespace Go.Proofs.Ytcdigdplhlgcaaa.gx
open Go Ev tp
section
variable (p:Nat) (nm:List UInt8) (k:Int) (sn sa rp:AV) (z1 z2:Int) (b1:Bool) (z1c:Int) (br1 br2 b1c:Bool) (z2c:Int) (sn2:AV)
noncomputable def Ffrm:AFrame:=frm 42 95 (tW (tX (tY (.fn (Fn.func 85) [] [])) (tY (.ptr p 0 0))) (.ptr p 0 0) tZ) [opi 42 [1,1,0,0] 1,cdi 42 [1,1,0,1],cdi 42 [1,1,1]]
noncomputable def zhM:AFrame:=frm 42 95 (tW (tX (tY (.fn (Fn.func (85:FuncId)) [] [])) (tX tZ (tY (.fn (Fn.func (85:FuncId)) [] [])))) (.ptr p 0 0) (tX (tX (tY (.bool false)) (tY sa)) tZ)) [opi 42 [1,1,0,0] 9,cdi 42 [1,1,0,1],cdi 42 [1,1,1]]
noncomputable def jk:AFrame:=frm 42 95 (tW (tX (tX (tX tZ (tY (.fn (Fn.func (85:FuncId)) [] []))) (tX tZ (tY rp))) tZ) (.ptr p 0 0) (tX (tX (tX (tY (.bool false)) tZ) tZ) (tX tZ (tX (tY (.bool true)) tZ)))) [opi 42 [1,1,0,0] 23,cdi 42 [1,1,0,1],cdi 42 [1,1,1]]
noncomputable def vC:AFrame:=frm 42 95 (tX tZ (tX (tX (tX tZ (tX (tY (.str nm)) tZ)) tZ) tZ)) [opi 42 [1,1,1,0,1,0,1,0,0] 4,cdi 55 [1,0,1,0,0,1,1,0,0,1,1,0,1],.inBlock 0,cdi 42 [1,1,1,1]]
noncomputable def qY:AFrame:=frm 42 95 (tW (tX (tW (tX (tW (tY (.ptr p 0 0)) (.bool br1) (tY sn)) (tW tZ (.tup []) (tY (.bool true)))) (.fn (Fn.func (85:FuncId)) [] []) (tX (tW (tY (.bool false)) (.ptr p 0 4) (tY (.ptr p 0 3))) (tW (tY (.bool (k==(7:Int)))) (.tup []) (tY sn)))) (tX (tX (tW (tY (.ptr p 0 0)) (.ptr p 0 0) (tY (.ptr p 0 0))) (tW tZ (.tup []) (tY (.ptr p 0 0)))) (tW (tW tZ (.bool b1) (tY (.int .i64 z2))) (.fn (Fn.func (85:FuncId)) [] []) (tW (tY (.ptr p 0 0)) (.bool false) tZ)))) (.ptr p 0 0) (tX (tX (tW (tW (tY (.ptr p 0 0)) (.bool false) (tY (.int .i64 z1))) (.bool false) (tW tZ (.tup []) (tY (.ptr p 0 0)))) (tW (tW (tY (.bool (k==(6:Int)))) rp (tY sa)) sa (tW (tY (.ptr p 0 0)) (.tup []) tZ))) (tX (tX (tW (tY (.int .i64 k)) (.ptr p 0 0) (tY (.ptr p 0 0))) (tW (tY (.bool true)) (.tup []) (tY (.ptr p 0 2)))) (tW (tW tZ (.bool false) (tY (.bool (z1==z2)))) (.bool br1) (tW (tY (.ptr p 0 2)) (.bool false) tZ))))) [.drw (rg P 42 [1,1,1,0,1,0,1,1,1,0,0]) [16,17,18,19,20,21,22,23,24,25,26] [15,14,13,12,11,10,9,8,7,6,5,4,3,2,1,0],cdi 55 [1,0,1,0,0,1,1,0,0,1,1,0,1],.inBlock 0,cdi 42 [1,1,1,1]]
noncomputable def qp:AFrame:=frm 42 95 (tW (tX (tX tZ (tX (tX tZ (tX (tY (.fn (Fn.func 88) [] [])) tZ)) tZ)) tZ) (.ptr p 0 0) (tX tZ (tX (tX (tX tZ (tX (tY sa) tZ)) tZ) (tX tZ (tX (tX (tY (.bool true)) tZ) tZ))))) [opi 42 [1,1,1,0,1,0,1,1,1,1,1,0,1,0] 12,cdi 55 [1,0,1,0,0,1,1,0,0,1,1,0,1],.inBlock 0,cdi 42 [1,1,1,1]]
noncomputable def kM:AFrame:=frm 42 95 (tX tZ (tX (tX (tX tZ (tX (tY (.str nm)) tZ)) tZ) tZ)) [opi 42 [1,1,1,0,1,0,1,0,0] 4,cdi 85 [1,1],.inBlock 0,cdi 42 [1,1,1,1]]
noncomputable def vA:AFrame:=frm 42 95 (tW (tX (tX (tX (tX (tY (.ptr p 0 0)) (tY sn)) (tW tZ (.fn (Fn.func (85:FuncId)) [] []) (tY (.bool true)))) (tX (tX (tY (.bool false)) (tY (.ptr p 0 3))) (tW (tY (.bool (k==(7:Int)))) rp (tY sn)))) (tX (tX (tX (tY (.ptr p 0 0)) (tY (.ptr p 0 0))) (tX tZ (tY (.ptr p 0 0)))) (tX (tX tZ (tY (.int .i64 z2))) (tW (tY (.ptr p 0 0)) (.bool br2) tZ)))) (.ptr p 0 0) (tX (tX (tX (tW (tY (.ptr p 0 0)) (.bool false) (tY (.int .i64 z1))) (tX tZ (tY (.ptr p 0 0)))) (tX (tX (tY (.bool (k==(6:Int)))) (tY sa)) (tW (tY (.ptr p 0 0)) (.bool br2) tZ))) (tX (tX (tX (tY (.int .i64 k)) (tY (.ptr p 0 0))) (tX (tY (.bool true)) (tY (.ptr p 0 2)))) (tX (tW tZ (.bool true) (tY (.bool (z1==z2)))) (tW (tY (.ptr p 0 2)) (.bool false) tZ))))) [.drw (rg P 42 [1,1,1,0,1,0,1,1,1,0,0]) [16,17,18,19,20,21,22,23,24,25,26] [15,14,13,12,11,10,9,8,7,6,5,4,3,2,1,0],cdi 85 [1,1],.inBlock 0,cdi 42 [1,1,1,1]]
noncomputable def w7:AFrame:=frm 42 95 (tW (tX (tX tZ (tX (tX tZ (tX (tY (.fn (Fn.func 88) [] [])) tZ)) tZ)) tZ) (.ptr p 0 0) (tX tZ (tX (tX (tX tZ (tX (tY sa) tZ)) tZ) (tX tZ (tX (tX (tY (.bool true)) tZ) tZ))))) [opi 42 [1,1,1,0,1,0,1,1,1,1,1,0,1,0] 12,cdi 85 [1,1],.inBlock 0,cdi 42 [1,1,1,1]]
noncomputable def yu:AFrame:=frm 42 95 (tW (tX (tW (tX (tW (tW (tY (.bool true)) (.ptr p 0 0) tZ) (.bool br1) (tY sn)) (tW tZ (.tup []) (tY (.bool true)))) (.fn (Fn.func (85:FuncId)) [] []) (tX (tW (tW (tY sn) (.bool false) tZ) (.ptr p 0 4) (tY (.ptr p 0 3))) (tW (tY (.bool (k==(7:Int)))) (.tup []) (tY sn)))) (tX (tX (tW (tW (tY (.ptr p 0 0)) (.ptr p 0 0) tZ) (.ptr p 0 0) (tY (.ptr p 0 0))) (tW tZ (.tup []) (tY (.ptr p 0 0)))) (tW (tW tZ (.bool b1c) (tY (.int .i64 z2c))) (.fn (Fn.func (85:FuncId)) [] []) (tW (tY (.ptr p 0 0)) (.bool false) (tY (.bool !br2)))))) (.ptr p 0 0) (tX (tX (tW (tW (tW (tY (.ptr p 0 0)) (.ptr p 0 0) tZ) (.bool false) (tY (.int .i64 z1c))) (.bool false) (tW tZ (.tup []) (tY (.ptr p 0 0)))) (tW (tW (tY (.bool (k==(6:Int)))) rp (tY sa)) sa (tW (tY (.ptr p 0 0)) (.tup []) (tY (.bool br2))))) (tX (tX (tW (tW (tY (.ptr p 0 2)) (.int .i64 k) tZ) (.ptr p 0 0) (tY (.ptr p 0 0))) (tW (tY (.bool true)) (.tup []) (tY (.ptr p 0 2)))) (tW (tW tZ (.bool false) (tY (.bool (z1c==z2c)))) (.bool br1) (tW (tY (.ptr p 0 2)) (.bool false) (tY (.bool !br2))))))) [.drw (rg P (42:FuncId) [1,1,1,0,1,0,1,1,1,0,0]) [24,25,26] [23,22,21,20,19,18,17,16,15,14,13,12,11,10,9,8,7,6,5,4,3,2,1,0],cdi 55 [1,0,1,0,0,1,1,0,0,1,1,0,1],.inBlock 0,cdi 42 [1,1,1,1]]
noncomputable def yk:AFrame:=frm 42 95 (tX (tX (tX (tX tZ (tX tZ (tX (tY (.bool true)) tZ))) (tX tZ (tX tZ (tX (tY sa) tZ)))) tZ) tZ) [opi 42 [1,1,1,0,1,0,1,1,1,1,1,0,1,0] 20,cdi 55 [1,0,1,0,0,1,1,0,0,1,1,0,1],.inBlock 0,cdi 42 [1,1,1,1]]
noncomputable def xN:AFrame:=frm 42 95 (tX (tX (tX (tX tZ (tX tZ (tX (tY (.bool true)) tZ))) tZ) tZ) (tX (tX tZ (tX tZ (tX tZ (tX (tY sn2) tZ)))) tZ)) [opi 42 [1,1,1,0,1,0,1,1,1,1,1,0,1,0] 21,cdi 55 [1,0,1,0,0,1,1,0,0,1,1,0,1],.inBlock 0,cdi 42 [1,1,1,1]]
end
section
variable {R:AV→AHeap→Prop} {keep N p:Nat} {f0:FuncId} {rest:List AFrame} {O:T AObj} {G:T (T AV)} {K:AM→Prop} {td:List AItem} {br0 br1 br2 b1c br3 br4:Bool} {sa sn rp sn2:AV} {k z1c z2c:Int} {nm:List UInt8}
theorem t_frm:(K (AM.mk (enF 86 [.ptr p 0 0]) ((Ffrm p)::rest) ⟨O,N,G⟩))=OT f0 R keep K (.seq [.run 12,.keep [0,3,5],.run 1] .fin) ((AM.mk (enF 42 [.ptr p 0 0]) rest ⟨O,N,G⟩)):=by kernel_rfl
theorem zh0:((((!br0))=true→(K (AM.mk (RF 42 95 (tX tZ (tY (.bool false))) [cdi 86 [1,1,0,1,0,1,0,1],cdi 42 [1,1,1]]) rest ⟨O,N,G⟩)))∧(((!br0))=false→((lC O N G p 3 sa)∧K (AM.mk (enF 55 [sa,.fn (Fn.func (85:FuncId)) [] []]) ((zhM p sa)::rest) ⟨O,N,G⟩))))=OT f0 R keep K (.seq [.run 3] (.fork 8 (.seq [.run 29,.keep [2]] .fin) (.seq [.run 3,.hop (sa) O,.run 1,.keep [0,3,8,12,13],.run 1] .fin))) ((AM.mk (RF 86 96 (tX tZ (tY (.bool br0))) td) ((Ffrm p)::rest) ⟨O,N,G⟩)):=by kernel_rfl
theorem xh:(((br1)=true→(K (AM.mk (RF 42 95 (tX tZ (tY (.bool false))) [cdi 55 [1,0,1,0,0,1,1,0,0,1,1,0,1],cdi 42 [1,1,1]]) rest ⟨O,N,G⟩)))∧((br1)=false→(∃ (b1:Bool),(lC O N G p 4 rp)∧(qq P (⟨O,N,G⟩) (BinOp.neq) (23) (true) (rp) (.nilp)=(some (.bool b1)))∧((b1)=true→((lC O N G p 4 rp)∧K (AM.mk (enF 85 [rp]) ((jk p rp)::rest) ⟨O,N,G⟩)))∧((b1)=false→((lC O N G p 0 (.int .i64 k))∧(((k==(6:Int)))=true→((lC O N G p 1 (.str nm))∧K (AM.mk (enF 87 [.str nm]) ((vC nm)::rest) ⟨O,N,G⟩)))∧(((k==(6:Int)))=false→((((k==(7:Int)))=true→(∃ (z1:Int) (z2:Int),(lC O N G p 2 sn)∧(lN O N G 32 sn z1)∧(lC O N G p 3 sa)∧(lN O N G 33 sa z2)∧(((z1==z2))=true→((lC O N G p 2 sn)∧K (AM.mk (enF 53 [sn,.fn (Fn.func 54) [] []]) ((qY p k sn sa rp z1 z2 b1 br1)::rest) ⟨O,N,G⟩)))∧(((z1==z2))=false→(K (AM.mk (RF 42 95 (tX tZ (tY (.bool false))) [cdi 55 [1,0,1,0,0,1,1,0,0,1,1,0,1],.inBlock 0,cdi 42 [1,1,1,1]]) rest ⟨O,N,G⟩)))))∧(((k==(7:Int)))=false→((((k==(9:Int)))=true→(∃ (z1:Int),(lC O N G p 3 sa)∧(lN O N G 33 sa z1)∧((decide (z1≥(2:Int)))=true→((lC O N G p 3 sa)∧K (AM.mk (enF 55 [sa,.fn (Fn.func 88) [] []]) ((qp p sa)::rest) ⟨O,N,G⟩)))∧((decide (z1≥(2:Int)))=false→(K (AM.mk (RF 42 95 (tX tZ (tY (.bool false))) [cdi 55 [1,0,1,0,0,1,1,0,0,1,1,0,1],.inBlock 0,cdi 42 [1,1,1,1]]) rest ⟨O,N,G⟩)))))∧(((k==(9:Int)))=false→(K (AM.mk (RF 42 95 (tX tZ (tY (.bool true))) [cdi 55 [1,0,1,0,0,1,1,0,0,1,1,0,1]]) rest ⟨O,N,G⟩))))))))))))=OT f0 R keep K (.seq [.run 3] (.fork 16 (.seq [.run 21,.keep [2]] .fin) (.ex fun b1:Bool=>(.seq [.run 3,.hop (rp) O,.hop (.bool b1) O,.run 1] (.fork 22 (.seq [.run 4,.hop (rp) O,.keep [0,16,22,23,27],.run 1] .fin) (.seq [.run 17,.hop (.int .i64 k) O,.run 7] (.fork 35 (.seq [.run 6,.hop (.str nm) O,.keep [40],.run 1] .fin) (.seq [.run 6] (.fork 42 (.ex fun z1:Int=>(.ex fun z2:Int=>(.seq [.run 6,.hop (sn) O,.hopn (.int .i64 z1) O (N),.run 3,.hop (sa) O,.hopn (.int .i64 z2) O (N),.run 2] (.fork 55 (.seq [.run 3,.hop (sn) O,.run 1] .fin) (.seq [.run 17,.keep [2]] .fin))))) (.seq [.run 6] (.fork 70 (.ex fun z1:Int=>(.seq [.run 10,.hop (sa) O,.hopn (.int .i64 z1) O (N),.run 2] (.fork 78 (.seq [.run 3,.hop (sa) O,.run 1,.keep [0,78,82,83],.run 1] .fin) (.seq [.run 19,.keep [2]] .fin)))) (.seq [.run 8,.keep [2]] .fin)))))))))))) ((AM.mk (RF 55 17 (tX tZ (tX (tY (.bool br1)) tZ)) td) ((zhM p sa)::rest) ⟨O,N,G⟩)):=by kernel_rfl
theorem qz:(((br2)=true→(K (AM.mk (RF 42 95 (tX tZ (tY (.bool false))) [cdi 85 [1,1],cdi 42 [1,1,1]]) rest ⟨O,N,G⟩)))∧((br2)=false→((lC O N G p 0 (.int .i64 k))∧(((k==(6:Int)))=true→((lC O N G p 1 (.str nm))∧K (AM.mk (enF 87 [.str nm]) ((kM nm)::rest) ⟨O,N,G⟩)))∧(((k==(6:Int)))=false→((((k==(7:Int)))=true→(∃ (z1:Int) (z2:Int),(lC O N G p 2 sn)∧(lN O N G 32 sn z1)∧(lC O N G p 3 sa)∧(lN O N G 33 sa z2)∧(((z1==z2))=true→((lC O N G p 2 sn)∧K (AM.mk (enF 53 [sn,.fn (Fn.func 54) [] []]) ((vA p k sn sa rp z1 z2 br2)::rest) ⟨O,N,G⟩)))∧(((z1==z2))=false→(K (AM.mk (RF 42 95 (tX tZ (tY (.bool false))) [cdi 85 [1,1],.inBlock 0,cdi 42 [1,1,1,1]]) rest ⟨O,N,G⟩)))))∧(((k==(7:Int)))=false→((((k==(9:Int)))=true→(∃ (z1:Int),(lC O N G p 3 sa)∧(lN O N G 33 sa z1)∧((decide (z1≥(2:Int)))=true→((lC O N G p 3 sa)∧K (AM.mk (enF 55 [sa,.fn (Fn.func 88) [] []]) ((w7 p sa)::rest) ⟨O,N,G⟩)))∧((decide (z1≥(2:Int)))=false→(K (AM.mk (RF 42 95 (tX tZ (tY (.bool false))) [cdi 85 [1,1],.inBlock 0,cdi 42 [1,1,1,1]]) rest ⟨O,N,G⟩)))))∧(((k==(9:Int)))=false→(K (AM.mk (RF 42 95 (tX tZ (tY (.bool true))) [cdi 85 [1,1]]) rest ⟨O,N,G⟩))))))))))=OT f0 R keep K (.seq [.run 4] (.fork 30 (.seq [.run 6,.keep [2]] .fin) (.seq [.run 8,.hop (.int .i64 k) O,.run 7] (.fork 35 (.seq [.run 6,.hop (.str nm) O,.keep [40],.run 1] .fin) (.seq [.run 6] (.fork 42 (.ex fun z1:Int=>(.ex fun z2:Int=>(.seq [.run 6,.hop (sn) O,.hopn (.int .i64 z1) O (N),.run 3,.hop (sa) O,.hopn (.int .i64 z2) O (N),.run 2] (.fork 55 (.seq [.run 3,.hop (sn) O,.run 1] .fin) (.seq [.run 17,.keep [2]] .fin))))) (.seq [.run 6] (.fork 70 (.ex fun z1:Int=>(.seq [.run 10,.hop (sa) O,.hopn (.int .i64 z1) O (N),.run 2] (.fork 78 (.seq [.run 3,.hop (sa) O,.run 1,.keep [0,78,82,83],.run 1] .fin) (.seq [.run 19,.keep [2]] .fin)))) (.seq [.run 8,.keep [2]] .fin))))))))) ((AM.mk (RF 85 10 (tX tZ (tY (.bool br2))) td) ((jk p rp)::rest) ⟨O,N,G⟩)):=by kernel_rfl
theorem kI:(K (AM.mk (RF 42 95 (tX tZ (tY (.bool br2))) [cdi 55 [1,0,1,0,0,1,1,0,0,1,1,0,1],.inBlock 0,cdi 42 [1,1,1,1]]) rest ⟨O,N,G⟩))=OT f0 R keep K (.seq [.run 4,.keep [2]] .fin) ((AM.mk (RF 87 15 (tX tZ (tY (.bool br2))) td) ((vC nm)::rest) ⟨O,N,G⟩)):=by kernel_rfl
theorem yr:((((!br2))=true→((lC O N G p 2 sn)∧K (AM.mk (enF 60 [sn]) ((yu p k sn sa rp z1c br1 br2 b1c z2c)::rest) ⟨O,N,G⟩)))∧(((!br2))=false→(K (AM.mk (RF 42 95 (tX tZ (tY (.bool false))) [cdi 55 [1,0,1,0,0,1,1,0,0,1,1,0,1],.inBlock 0,cdi 42 [1,1,1,1]]) rest ⟨O,N,G⟩))))=OT f0 R keep K (.seq [.run 4] (.fork 63 (.seq [.run 3,.hop (sn) O,.run 1] .fin) (.seq [.run 9,.keep [2]] .fin))) ((AM.mk (RF 53 17 (tX tZ (tX (tY (.bool br2)) tZ)) td) ((qY p k sn sa rp z1c z2c b1c br1)::rest) ⟨O,N,G⟩)):=by kernel_rfl
theorem qA:(K (AM.mk (RF 42 95 (tX tZ (tY (.bool br3))) [cdi 55 [1,0,1,0,0,1,1,0,0,1,1,0,1],.inBlock 0,cdi 42 [1,1,1,1]]) rest ⟨O,N,G⟩))=OT f0 R keep K (.seq [.run 5,.keep [2]] .fin) ((AM.mk (RF 60 20 (tX tZ (tY (.bool br3))) td) ((yu p k sn sa rp z1c br1 br2 b1c z2c)::rest) ⟨O,N,G⟩)):=by kernel_rfl
theorem yj:((((!br2))=true→((lC O N G p 3 sa)∧K (AM.mk (enF 89 [sa]) ((yk sa)::rest) ⟨O,N,G⟩)))∧(((!br2))=false→(K (AM.mk (RF 42 95 (tX tZ (tY (.bool false))) [cdi 55 [1,0,1,0,0,1,1,0,0,1,1,0,1],.inBlock 0,cdi 42 [1,1,1,1]]) rest ⟨O,N,G⟩))))=OT f0 R keep K (.seq [.run 4] (.fork 87 (.seq [.run 3,.hop (sa) O,.keep [87,91],.run 1] .fin) (.seq [.run 10,.keep [2]] .fin))) ((AM.mk (RF 55 17 (tX tZ (tX (tY (.bool br2)) tZ)) td) ((qp p sa)::rest) ⟨O,N,G⟩)):=by kernel_rfl
theorem qf:(K (AM.mk (enF 60 [sn2]) ((xN sn2)::rest) ⟨O,N,G⟩))=OT f0 R keep K (.seq [.run 1,.keep [87,92],.run 1] .fin) ((AM.mk (RF 89 19 (tX tZ (tY sn2)) td) ((yk sa)::rest) ⟨O,N,G⟩)):=by kernel_rfl
theorem yx:(K (AM.mk (RF 42 95 (tX tZ (tY (.bool br4))) [cdi 55 [1,0,1,0,0,1,1,0,0,1,1,0,1],.inBlock 0,cdi 42 [1,1,1,1]]) rest ⟨O,N,G⟩))=OT f0 R keep K (.seq [.run 5,.keep [2]] .fin) ((AM.mk (RF 60 20 (tX tZ (tY (.bool br4))) td) ((xN sn2)::rest) ⟨O,N,G⟩)):=by kernel_rfl
end
variable {O O':T AObj} {N:Nat} {G:T (T AV)}
theorem zci:∀ (m:Nat) (t:Ty),cnt t≤m∧cnt t≤60→isNo t=false→FC G t
 | m,.no,hm,hn=>by cases hn
 | 0,.mk k nm ns ts r,hm,hn=>by rw [z9] at hm; omega
 | m+1,.mk k nm ns ts r,hm,hn=>by
  intro keep f0 Q hi p rest O N ht hN hK;obtain ⟨id,sn,sa,ps,q,rfl,i1',i2',i3',i4',i5',i6',i7',i8',i9'⟩:=ht.inv;rw [z9] at hm;rw [zbQ,wY] at hK;have hany:ts.any (fun x=>!okT x)=!(ts.all okT):=by rw [List.any_eq_not_all_not]; simp
  refine (ot t_frm ?_);refine ho_ok i2' i3' i4' i5' i9' fun td=>?_;rcases Bool.eq_false_or_eq_true (own k nm ns ts r) with hw | hw;rotate_left
  ·rw [hw,Bool.false_and,Bool.false_and,Bool.false_and] at hK;exact (ot (zh0 (sa:=.nilp) (br0:=(own k nm ns ts r))) (fkt (by rw [hw]; rfl) (hK O N _ Ext.refl)))
  have hf:=wQ hw;refine (ot (zh0 (sa:=sa) (br0:=(own k nm ns ts r))) (fkf (by rw [hw]; rfl) ⟨i2'.ld 3 rfl,?_⟩));refine zsP (F:=fun x hx hn=>zci m x (by have:=xf hx; omega) hn) i4' i5' i6' i8' hN fun O1 N1 td ex1=>?_;have n1:=ex1.1;have t1:=i2'.same (ex1.2 id (by omega));have s1:=i4'.keep (O':=O1) (fun j _ hj=>ex1.2 j (by omega)) (Nat.le_refl 0) (Nat.le_refl hi);have w1:=i3'.keep (O':=O1) (fun j _ hj=>ex1.2 j (by omega)) (Nat.le_refl 0) (Nat.le_refl hi);have r1:=i9'.same (O':=O1) (fun j hj=>ex1.2 j (by omega)) (Nat.le_refl _);rcases Bool.eq_false_or_eq_true (ts.all okT) with hall | hall;rotate_left
  ·rw [hw,hall,Bool.true_and,Bool.false_and,Bool.false_and] at hK;exact (ot (xh (k:=0) (nm:=[]) (sn:=.nilp) (rp:=.nilp) (br1:=(ts.any (fun x=>!okT x)))) (fkt (by rw [hany,hall]; rfl) (hK O1 N1 _ ex1)))
  rw [hw,hall,Bool.true_and,Bool.true_and] at hK;have hok:∀ x∈ts,okT x=true:=List.all_eq_true.1 hall;rcases Bool.eq_false_or_eq_true (isNo r) with hr | hr;rotate_left
  ·have k8:=(hf.2.1).2 hr;refine (ot (xh (k:=0) (nm:=[]) (sn:=.nilp) (rp:=(pv q)) (br1:=(ts.any (fun x=>!okT x)))) (fkf (by rw [hany,hall]; rfl) ⟨(!isNo r),t1.ld 4 rfl,kj r1 _,fkt (by rw [hr]; rfl) ⟨t1.ld 4 rfl,?_⟩⟩));refine zpB (fun h=>zci m r (by omega) h) r1 (by omega) fun O2 N2 td ex2=>?_;have n2:=ex2.1;have t2:=t1.same (ex2.2 id (by omega));rw [hr,Bool.false_or] at hK;rcases Bool.eq_false_or_eq_true (okT r) with hrr | hrr
   ·rw [hrr,Bool.true_and,show okK k nm ns ts=true from by unfold okK; rw [if_neg (by omega),if_neg (by omega),if_neg (by omega)]] at hK
    exact (ot (qz (k:=k) (nm:=[]) (sn:=.nilp) (sa:=.nilp) (rp:=(pv q)) (br2:=(!okT r))) (fkf (by rw [hrr]; rfl) ⟨t2.ld 0 rfl,fkf (beq_eq_false_iff_ne.2 (by omega)) (fkf (beq_eq_false_iff_ne.2 (by omega)) (fkf (beq_eq_false_iff_ne.2 (by omega)) (hK O2 N2 _ (ex1.trans ex2))))⟩))
   ·rw [hrr,Bool.false_and] at hK;exact (ot (qz (k:=0) (nm:=[]) (sn:=.nilp) (sa:=.nilp) (rp:=(pv q)) (br2:=(!okT r))) (fkt (by rw [hrr]; rfl) (hK O2 N2 _ (ex1.trans ex2))))
  rw [hr,Bool.true_or,Bool.true_and] at hK
  by_cases k6:k=6
  ·rw [show okK k nm ns ts=zK nm from by unfold okK; rw [if_pos k6]] at hK
   refine (ot (xh (k:=k) (nm:=nm) (sn:=.nilp) (rp:=(pv q)) (br1:=(ts.any (fun x=>!okT x)))) (fkf (by rw [hany,hall]; rfl) ⟨(!isNo r),t1.ld 4 rfl,kj r1 _,fkf (by rw [hr]; rfl) ⟨t1.ld 0 rfl,fkt (beq_iff_eq.2 k6) ⟨t1.ld 1 rfl,?_⟩⟩⟩));refine zsS nm fun O2 N2 td ex2=>?_;exact (ot (kI (br2:=(zK nm))) (hK O2 N2 _ (ex1.trans ex2)))
  have b6:(k==(6:Int))=false:=beq_eq_false_iff_ne.2 k6
  by_cases k7:k=7
  ·rw [show okK k nm ns ts=(decide (ns.length=ts.length)&&ns.all zh&&qL ns) from by unfold okK; rw [if_neg k6,if_pos k7]] at hK
   by_cases hl:ns.length=ts.length
   ·rw [decide_eq_true hl,Bool.true_and] at hK;refine (ot (xh (k:=k) (nm:=[]) (sn:=sn) (rp:=(pv q)) (br1:=(ts.any (fun x=>!okT x)))) (fkf (by rw [hany,hall]; rfl) ⟨(!isNo r),t1.ld 4 rfl,kj r1 _,fkf (by rw [hr]; rfl) ⟨t1.ld 0 rfl,fkf b6 (fkt (beq_iff_eq.2 k7) ⟨((ns.length:Nat):Int),((ts.length:Nat):Int),t1.ld 2 rfl,w1.len sSl _ _,t1.ld 3 rfl,by rw [← i5']; exact s1.len pSl _ _,fkt (by rw [hl]; exact beq_self_eq_true _) ⟨t1.ld 2 rfl,?_⟩⟩)⟩⟩));refine zoC w1 (by omega) (by omega) fun O2 N2 td ex2=>?_;have n2:=ex2.1;have t2:=t1.same (ex2.2 id (by omega));have w2:=w1.keep (O':=O2) (fun j _ hj=>ex2.2 j (by omega)) (Nat.le_refl 0) (Nat.le_refl hi);rw [show ns.all zh=!(ns.any (fun s=>!zh s)) from by rw [List.any_eq_not_all_not]; simp] at hK
    rcases Bool.eq_false_or_eq_true (ns.any (fun s=>!zh s)) with ha | ha
    ·rw [ha,Bool.not_true,Bool.false_and] at hK;exact (ot (yr (rp:=(pv q)) (z1c:=((ns.length:Nat):Int)) (br1:=(ts.any (fun x=>!okT x))) (br2:=(ns.any (fun s=>!zh s))) (b1c:=(!isNo r)) (z2c:=((ts.length:Nat):Int))) (fkf (by rw [ha]; rfl) (hK O2 N2 _ (ex1.trans ex2))))
    ·rw [ha,Bool.not_false,Bool.true_and] at hK;refine (ot (yr (rp:=(pv q)) (z1c:=((ns.length:Nat):Int)) (br1:=(ts.any (fun x=>!okT x))) (br2:=(ns.any (fun s=>!zh s))) (b1c:=(!isNo r)) (z2c:=((ts.length:Nat):Int))) (fkt (by rw [ha]; rfl) ⟨t2.ld 2 rfl,?_⟩));refine ziK w2 (by omega) fun td=>?_;exact (ot (qA (rp:=(pv q)) (z1c:=((ns.length:Nat):Int)) (br1:=(ts.any (fun x=>!okT x))) (br2:=(ns.any (fun s=>!zh s))) (br3:=(qL ns)) (b1c:=(!isNo r)) (z2c:=((ts.length:Nat):Int))) (hK O2 N2 _ (ex1.trans ex2)))
   ·rw [decide_eq_false hl,Bool.false_and,Bool.false_and] at hK;exact (ot (xh (k:=k) (nm:=[]) (sn:=sn) (rp:=(pv q)) (br1:=(ts.any (fun x=>!okT x)))) (fkf (by rw [hany,hall]; rfl) ⟨(!isNo r),t1.ld 4 rfl,kj r1 _,fkf (by rw [hr]; rfl) ⟨t1.ld 0 rfl,fkf b6 (fkt (beq_iff_eq.2 k7) ⟨((ns.length:Nat):Int),((ts.length:Nat):Int),t1.ld 2 rfl,w1.len sSl _ _,t1.ld 3 rfl,by rw [← i5']; exact s1.len pSl _ _,fkf (beq_eq_false_iff_ne.2 (by omega)) (hK O1 N1 _ ex1)⟩)⟩⟩))
  have b7:(k==(7:Int))=false:=beq_eq_false_iff_ne.2 k7
  by_cases k9:k=9
  ·rw [show okK k nm ns ts=(decide (2≤ts.length)&&ts.all (fun x=>!(kd x==9 || kd x==1))&&qL (ts.map wr)) from by unfold okK; rw [if_neg k6,if_neg k7,if_pos k9]] at hK
   by_cases hl:2≤ts.length
   ·rw [decide_eq_true hl,Bool.true_and] at hK;refine (ot (xh (k:=k) (nm:=[]) (sn:=.nilp) (rp:=(pv q)) (br1:=(ts.any (fun x=>!okT x)))) (fkf (by rw [hany,hall]; rfl) ⟨(!isNo r),t1.ld 4 rfl,kj r1 _,fkf (by rw [hr]; rfl) ⟨t1.ld 0 rfl,fkf b6 (fkf b7 (fkt (beq_iff_eq.2 k9) ⟨((ts.length:Nat):Int),t1.ld 3 rfl,by rw [← i5']; exact s1.len pSl _ _,fkt (decide_eq_true (by omega)) ⟨t1.ld 3 rfl,?_⟩⟩))⟩⟩));refine zsz (ho:=hok) s1 i5' i6' (fun j x p a b=>(i8' j x p a b).same (fun j hj=>ex1.2 j (by omega)) (Nat.le_refl _)) (by omega) fun O2 N2 td ex2=>?_;have n2:=ex2.1;have t2:=t1.same (ex2.2 id (by omega));have s2:=s1.keep (O':=O2) (fun j _ hj=>ex2.2 j (by omega)) (Nat.le_refl 0) (Nat.le_refl hi);rw [show (ts.all (fun x=>!(kd x==9 || kd x==1)))=!(ts.any (fun x=>(kd x==9 || kd x==1))) from by rw [List.any_eq_not_all_not]; simp] at hK
    rcases Bool.eq_false_or_eq_true (ts.any (fun x=>(kd x==9 || kd x==1))) with ha | ha
    ·rw [ha,Bool.not_true,Bool.false_and] at hK;exact (ot (yj (br2:=(ts.any (fun x=>(kd x==9 || kd x==1))))) (fkf (by rw [ha]; rfl) (hK O2 N2 _ (ex1.trans ex2))))
    ·rw [ha,Bool.not_false,Bool.true_and] at hK;refine (ot (yj (br2:=(ts.any (fun x=>(kd x==9 || kd x==1))))) (fkt (by rw [ha]; rfl) ⟨t2.ld 3 rfl,?_⟩));refine zsN s2 i5' i6' (fun j x p a b=>((i8' j x p a b).same (fun j hj=>ex1.2 j (by omega)) (Nat.le_refl _)).same (fun j hj=>ex2.2 j (by omega)) (Nat.le_refl _)) (fun x hx=>⟨hok x hx,by have:=xf hx; omega⟩) (by omega) fun O3 N3 td ss ex3 gv=>?_;refine (ot qf ?_);refine ziK (gv.sv sEn) (by rw [List.length_map]; omega) fun td=>?_;exact (ot (yx (br4:=(qL (ts.map wr)))) (hK O3 N3 _ ((ex1.trans ex2).trans ex3)))
   ·rw [decide_eq_false hl,Bool.false_and,Bool.false_and] at hK;exact (ot (xh (k:=k) (nm:=[]) (sn:=.nilp) (rp:=(pv q)) (br1:=(ts.any (fun x=>!okT x)))) (fkf (by rw [hany,hall]; rfl) ⟨(!isNo r),t1.ld 4 rfl,kj r1 _,fkf (by rw [hr]; rfl) ⟨t1.ld 0 rfl,fkf b6 (fkf b7 (fkt (beq_iff_eq.2 k9) ⟨((ts.length:Nat):Int),t1.ld 3 rfl,by rw [← i5']; exact s1.len pSl _ _,fkf (decide_eq_false (by omega)) (hK O1 N1 _ ex1)⟩))⟩⟩))
  have b9:(k==(9:Int))=false:=beq_eq_false_iff_ne.2 k9;rw [show okK k nm ns ts=true from by unfold okK; rw [if_neg k6,if_neg k7,if_neg k9]] at hK
  exact (ot (xh (k:=k) (nm:=[]) (sn:=.nilp) (rp:=(pv q)) (br1:=(ts.any (fun x=>!okT x)))) (fkf (by rw [hany,hall]; rfl) ⟨(!isNo r),t1.ld 4 rfl,kj r1 _,fkf (by rw [hr]; rfl) ⟨t1.ld 0 rfl,fkf b6 (fkf b7 (fkf b9 (hK O1 N1 _ ex1)))⟩⟩))
end Go.Proofs.Ytcdigdplhlgcaaa.gx
end
section
set_option maxRecDepth 100000
set_option linter.unusedVariables false
set_option linter.unusedSectionVars false
set_option linter.unusedSimpArgs false
namespace Go.Proofs.Ytcdigdplhlgcaaa.gx
open Go Ev tp
section
variable (p:Nat) (nm:List UInt8) (rp sn:AV) (q:Nat) (k2:Int) (sa:AV) (j:Int) (rest:List AFrame) (O:T AObj) (N:Nat) (G:T (T AV)) (i1 i2 i3 i4 i5 i6 i7 i8 i9:Nat) (s1 s2:AV) (z1:Int) (l1 l2:List UInt8) (z1c:Int) (l1c:List UInt8) (s1c:AV) (wa wb:List UInt8) (i1c i2c i3c:Nat) (br0:Bool) (i4c i5c i6c i7c i8c i9c:Nat) (s2c:AV)
noncomputable def Wma:AM:=⟨frm 43 225 (tW (tX (tY (.int .i64 j)) tZ) (.ptr p 0 0) tZ) [cdi 43 [1,1,1,0,1,0,0],ili 43 [1,1,1,0,1,0,0],.inBlock 0,cdi 43 [1,1,1,1]],rest,⟨O,N,G⟩⟩
noncomputable def zs5:AFrame:=frm 43 225 (tW (tX (tY (.int .i64 j)) tZ) (.ptr p 0 0) (tX (tX tZ (tX tZ (tX tZ (tX (tY s1) tZ)))) tZ)) [opi 43 [1,1,1,0,1,0,0,1,0,0,0] 7,cdi 43 [1,1,1,0,1,0,0,1,0,0,1],.inBlock 1,cdi 43 [1,1,1,0,1,0,0,1,1],ili 43 [1,1,1,0,1,0,0],.inBlock 0,cdi 43 [1,1,1,1]]
noncomputable def zoo:AFrame:=frm 43 225 (tX tZ (tX (tX (tX tZ (tX (tX tZ (tY (.str nm))) tZ)) tZ) tZ)) [opi 43 [1,1,1,1,0,1,0,1,0,0] 4,cdi 43 [1,0,1,0,1],.inBlock 2,cdi 43 [1,1,1,1,1]]
noncomputable def Wmb:AM:=⟨frm 43 225 (tW tZ (.ptr p 0 0) (tX (tY (.int .i64 j)) tZ)) [cdi 43 [1,1,1,1,0,1,0,1,1,1,0,1,1,0,0],ili 43 [1,1,1,1,0,1,0,1,1,1,0,1,1,0,0],.inBlock 3,.inBlock 2,cdi 43 [1,1,1,1,1]],rest,⟨O,N,G⟩⟩
noncomputable def zil:AFrame:=frm 43 225 (tX (tX tZ (tX tZ (tX (tX (tX tZ (tX (tY rp) tZ)) tZ) tZ))) tZ) [opi 43 [1,1,1,1,0,1,0,1,1,1,1,1,0,0] 4,cdi 43 [1,0,1,0,1],.inBlock 2,cdi 43 [1,1,1,1,1]]
noncomputable def Wmc:AM:=⟨frm 43 225 (tW (tX tZ (tY (.int .i64 j))) (.ptr p 0 0) tZ) [cdi 43 [1,1,1,1,0,1,0,1,1,1,1,1,1,1,0,0,1,0,0],ili 43 [1,1,1,1,0,1,0,1,1,1,1,1,1,1,0,0,1,0,0],.inBlock 5,cdi 43 [1,1,1,1,0,1,0,1,1,1,1,1,1,1,0,1],.inBlock 2,cdi 43 [1,1,1,1,1]],rest,⟨O,N,G⟩⟩
noncomputable def ztn:AFrame:=frm 43 225 (tW (tX (tX (tX tZ (tX tZ (tX tZ (tY (.int .i64 j))))) (tX (tX (tX (tX (tY sn) tZ) tZ) tZ) (tX tZ (tX tZ (tY sn))))) (tX (tX (tX (tX (tX (tY (.ptr p 0 0)) tZ) tZ) tZ) (tX tZ (tX tZ (tY (.ptr p 0 0))))) (tX (tX (tX (tX (tY (.ptr i1 i2 i3)) tZ) tZ) tZ) (tX tZ (tX tZ (tY (.bool true))))))) (.ptr p 0 0) (tX (tW (tX (tX (tX (tX (tY (.ptr p 0 0)) tZ) tZ) tZ) (tX tZ (tX tZ (tY (.ptr p 0 0))))) (.int .i64 j) (tX (tX (tX (tX (tY (.int .i64 j)) tZ) tZ) tZ) (tX tZ (tX tZ (tY (.int .i64 z1)))))) (tX (tX (tX (tX (tX (tY (.ptr p 0 2)) tZ) tZ) tZ) (tX tZ (tX tZ (tY (.ptr p 0 2))))) (tX (tX (tX (tX (tY (.str l1)) tZ) tZ) tZ) tZ)))) [.drw (rg P 43 [1,1,1,1,0,1,0,1,1,1,0,1,1,0,0,1,0,0,0]) [7,8,9,10,11,12,13,14,15,16,17,18,19,20,21,22,23,24,25,26,27,28,29,30,31] [6,5,4,3,2,1,0],cdi 43 [1,1,1,1,0,1,0,1,1,1,0,1,1,0,0,1,0,0,1],.inBlock 4,cdi 43 [1,1,1,1,0,1,0,1,1,1,0,1,1,0,0,1,1],ili 43 [1,1,1,1,0,1,0,1,1,1,0,1,1,0,0],.inBlock 3,.inBlock 2,cdi 43 [1,1,1,1,1]]
noncomputable def zc5:AFrame:=frm 43 225 (tW (tX (tX (tX (tX tZ (tX (tX (tY (.ptr p 0 2)) tZ) tZ)) (tX (tX (tX (tY (.bool br0)) tZ) tZ) (tX (tX (tY (.ptr p 0 2)) tZ) (tY (.int .i64 j))))) (tX (tX (tX (tX (tY sn) tZ) tZ) (tX (tX (tY (.ptr i1 i2 i3)) tZ) tZ)) (tX (tX (tX (tY (.bool (decide (j > (0:Int))))) tZ) tZ) (tX (tX (tY (.str l2)) tZ) (tY sn))))) (tX (tX (tX (tX (tX (tY (.ptr p 0 0)) tZ) tZ) (tX (tX (tY (.int .i64 j)) tZ) tZ)) (tX (tX (tX (tY (.bool false)) tZ) tZ) (tX (tX (tY (.int .i64 j)) tZ) (tY (.ptr p 0 0))))) (tX (tX (tX (tX (tY (.ptr i1c i2c i3c)) tZ) tZ) (tX (tX (tY (.ptr p 0 0)) tZ) tZ)) (tX (tX (tX (tY (.ptr p 0 0)) tZ) tZ) (tX tZ (tY (.bool true))))))) (.ptr p 0 0) (tX (tW (tX (tX (tX (tX (tY (.ptr p 0 0)) tZ) tZ) (tX (tX (tY sn) tZ) tZ)) (tX (tX (tX (tY (.bool !br0)) tZ) tZ) (tX (tX (tY sn) tZ) (tY (.ptr p 0 0))))) (.int .i64 j) (tX (tX (tX (tX (tY (.int .i64 j)) tZ) tZ) (tX (tX (tY (.str l1)) tZ) tZ)) (tX (tX (tX (tY (.bool true)) tZ) tZ) (tX tZ (tY (.int .i64 z1c)))))) (tX (tX (tX (tX (tX (tY (.ptr p 0 2)) tZ) tZ) (tX (tX (tY (.int .i64 (IntKind.i64.wrap (j - (1:Int))))) tZ) tZ)) (tX (tX (tX (tY (.int .i64 j)) tZ) tZ) (tX (tX (tY (.ptr i4 i5 i6)) tZ) (tY (.ptr p 0 2))))) (tX (tX (tX (tX (tY (.str l1c)) tZ) tZ) (tX (tX (tY (.ptr p 0 0)) tZ) tZ)) (tX (tX (tX (tY (.ptr p 0 0)) tZ) tZ) tZ))))) [.drw (rg P (43:FuncId) [1,1,1,1,0,1,0,1,1,1,0,1,1,0,0,1,0,0,0]) [28,29,30,31] [27,26,25,24,23,22,21,20,19,18,17,16,15,14,13,12,11,10,9,8,7,6,5,4,3,2,1,0],cdi 43 [1,1,1,1,0,1,0,1,1,1,0,1,1,0,0,1,0,0,1],.inBlock 4,cdi 43 [1,1,1,1,0,1,0,1,1,1,0,1,1,0,0,1,1],ili 43 [1,1,1,1,0,1,0,1,1,1,0,1,1,0,0],.inBlock 3,.inBlock 2,cdi 43 [1,1,1,1,1]]
noncomputable def zhT:AFrame:=frm 43 225 (tW (tX (tX (tX (tX (tX (tX tZ (tY (.int .i64 k2))) tZ) (tX (tX tZ (tY (.ptr p 0 0))) (tX (tY (.bool true)) tZ))) (tX (tX (tX tZ (tY (.ptr p 0 0))) tZ) (tX tZ (tX (tY (.ptr i1 i2 i3)) tZ)))) (tX (tX (tX (tX tZ (tY (.int .i64 j))) tZ) (tX (tX tZ (tY (.int .i64 j))) (tX (tY (.ptr p 0 0)) tZ))) (tX (tX (tX tZ (tY (.int .i64 (IntKind.i64.wrap (j - (1:Int)))))) (tX (tY (.ptr p 0 0)) tZ)) (tX tZ (tX (tY (.int .i64 k2)) tZ))))) (tW (tX (tX (tX (tX tZ (tY (.bool (k2==(1:Int))))) tZ) (tX (tX tZ (tY (.ptr p 0 3))) tZ)) (tX (tX (tX tZ (tY sa)) (tX (tY (.int .i64 j)) tZ)) (tX tZ (tX (tY (.ptr q 0 0)) tZ)))) (.int .i64 j) (tX (tX (tX (tX tZ (tY (.bool true))) tZ) (tX (tX tZ (tY s2)) (tX (tY sa) tZ))) (tX (tX (tX tZ (tY s1)) (tX (tY sa) tZ)) (tX tZ (tX (tY (.bool (k2==(9:Int)))) tZ)))))) (.ptr p 0 0) (tX (tX (tX (tX (tX (tX tZ (tY (.bool (k2==(1:Int))))) tZ) (tX (tX tZ (tY (.ptr p 0 0))) tZ)) (tX (tX (tX tZ (tY (.ptr p 0 3))) tZ) (tX tZ (tX (tY (.ptr q 0 0)) tZ)))) (tX (tX (tX (tX tZ (tY (.bool (decide (j > (0:Int)))))) tZ) (tX (tX tZ (tY (.ptr i7 i8 i9))) (tX (tY (.ptr p 0 3)) tZ))) (tX (tX (tX tZ (tY (.ptr i4 i5 i6))) (tX (tY (.ptr p 0 3)) tZ)) (tX tZ (tX (tY (.int .i64 k2)) tZ))))) (tW (tX (tX (tX (tX tZ (tY (.bool false))) tZ) (tX (tX tZ (tY sa)) (tX (tY (.ptr p 0 0)) tZ))) (tX (tX (tX tZ (tY (.int .i64 j))) (tX (tY (.ptr p 0 0)) tZ)) (tX tZ (tX (tY (.ptr q 0 0)) tZ)))) (.int .i64 k2) (tX (tX (tX (tX tZ (tY (.ptr p 0 0))) tZ) (tX tZ (tX (tY (.int .i64 j)) tZ))) (tX (tX tZ (tX (tY (.int .i64 z1)) tZ)) (tX tZ (tX (tY (.bool false)) tZ))))))) [.drw (rg P 43 [1,1,1,1,0,1,0,1,1,1,1,1,1,1,0,0,1,0,0,1,0,0,1,0]) [18,26,27,28,29,30] [25,24,23,22,21,20,19,17,16,15,14,13,12,11,10,9,8,7,6,5,4,3,2,1,0],cdi 43 [1,1,1,1,0,1,0,1,1,1,1,1,1,1,0,0,1,0,0,1,0,0,1,1],.inBlock 6,cdi 43 [1,1,1,1,0,1,0,1,1,1,1,1,1,1,0,0,1,0,0,1,1],ili 43 [1,1,1,1,0,1,0,1,1,1,1,1,1,1,0,0,1,0,0],.inBlock 5,cdi 43 [1,1,1,1,0,1,0,1,1,1,1,1,1,1,0,1],.inBlock 2,cdi 43 [1,1,1,1,1]]
noncomputable def zbi:AFrame:=frm 43 225 (tW (tX (tX (tX (tX (tX (tX tZ (tY (.int .i64 k2))) tZ) (tX (tX tZ (tY (.ptr p 0 0))) (tX (tY (.bool true)) tZ))) (tX (tX (tX tZ (tY (.ptr p 0 0))) tZ) (tX tZ (tX (tY (.ptr i1c i2c i3c)) tZ)))) (tX (tX (tX (tX tZ (tY (.int .i64 j))) tZ) (tX (tX tZ (tY (.int .i64 j))) (tX (tY (.ptr p 0 0)) tZ))) (tX (tX (tX tZ (tY (.int .i64 (IntKind.i64.wrap (j - (1:Int)))))) (tX (tY (.ptr p 0 0)) tZ)) (tX tZ (tX (tY (.int .i64 k2)) tZ))))) (tW (tX (tX (tX (tX tZ (tY (.bool (k2==(1:Int))))) tZ) (tX (tX tZ (tY (.ptr p 0 3))) tZ)) (tX (tX (tX tZ (tY sa)) (tX (tY (.int .i64 j)) tZ)) (tX tZ (tX (tY (.ptr q 0 0)) tZ)))) (.int .i64 j) (tX (tX (tX (tX tZ (tY (.bool true))) tZ) (tX (tX tZ (tY s2c)) (tX (tY sa) tZ))) (tX (tX (tX tZ (tY s1c)) (tX (tY sa) tZ)) (tX tZ (tX (tY (.bool (k2==(9:Int)))) tZ)))))) (.ptr p 0 0) (tX (tX (tX (tX (tX (tX tZ (tY (.bool (k2==(1:Int))))) tZ) (tX (tX tZ (tY (.ptr p 0 0))) tZ)) (tX (tX (tX tZ (tY (.ptr p 0 3))) tZ) (tX tZ (tX (tY (.ptr q 0 0)) tZ)))) (tX (tX (tX (tX tZ (tY (.bool (decide (j > (0:Int)))))) tZ) (tX (tX tZ (tY (.ptr i7c i8c i9c))) (tX (tY (.ptr p 0 3)) tZ))) (tX (tX (tX tZ (tY (.ptr i4c i5c i6c))) (tX (tY (.ptr p 0 3)) tZ)) (tX tZ (tX (tY (.int .i64 k2)) tZ))))) (tW (tX (tX (tX (tX tZ (tY (.bool false))) tZ) (tX (tX tZ (tY sa)) (tX (tY (.ptr p 0 0)) tZ))) (tX (tX (tX tZ (tY (.int .i64 j))) (tX (tY (.ptr p 0 0)) tZ)) (tX tZ (tX (tY (.ptr q 0 0)) tZ)))) (.int .i64 k2) (tX (tX (tX (tX tZ (tY (.ptr p 0 0))) tZ) (tX tZ (tX (tY (.int .i64 j)) tZ))) (tX (tX (tX tZ (tY (.str wa))) (tX (tY (.int .i64 z1c)) tZ)) (tX tZ (tX (tY (.bool false)) tZ))))))) [.drw (rg P (43:FuncId) [1,1,1,1,0,1,0,1,1,1,1,1,1,1,0,0,1,0,0,1,0,0,1,0]) [26,27,28,29,30] [18,25,24,23,22,21,20,19,17,16,15,14,13,12,11,10,9,8,7,6,5,4,3,2,1,0],cdi 43 [1,1,1,1,0,1,0,1,1,1,1,1,1,1,0,0,1,0,0,1,0,0,1,1],.inBlock 6,cdi 43 [1,1,1,1,0,1,0,1,1,1,1,1,1,1,0,0,1,0,0,1,1],ili 43 [1,1,1,1,0,1,0,1,1,1,1,1,1,1,0,0,1,0,0],.inBlock 5,cdi 43 [1,1,1,1,0,1,0,1,1,1,1,1,1,1,0,1],.inBlock 2,cdi 43 [1,1,1,1,1]]
noncomputable def vP:AFrame:=frm 43 225 (tW (tX (tX (tX (tX (tX (tX tZ (tY (.int .i64 k2))) tZ) (tX (tX tZ (tY (.ptr p 0 0))) (tX (tY (.bool true)) tZ))) (tX (tX (tX tZ (tY (.ptr p 0 0))) tZ) (tX tZ (tX (tY (.ptr i1c i2c i3c)) tZ)))) (tX (tX (tX (tX tZ (tY (.int .i64 j))) tZ) (tX (tX tZ (tY (.int .i64 j))) (tX (tY (.ptr p 0 0)) tZ))) (tX (tX (tX tZ (tY (.int .i64 (IntKind.i64.wrap (j - (1:Int)))))) (tX (tY (.ptr p 0 0)) tZ)) (tX tZ (tX (tY (.int .i64 k2)) tZ))))) (tW (tX (tX (tX (tX tZ (tY (.bool (k2==(1:Int))))) tZ) (tX (tX tZ (tY (.ptr p 0 3))) tZ)) (tX (tX (tX tZ (tY sa)) (tX (tY (.int .i64 j)) tZ)) (tX tZ (tX (tY (.ptr q 0 0)) tZ)))) (.int .i64 j) (tX (tX (tX (tX tZ (tY (.bool true))) tZ) (tX (tX tZ (tY s2c)) (tX (tY sa) tZ))) (tX (tX (tX tZ (tY s1c)) (tX (tY sa) tZ)) (tX tZ (tX (tY (.bool (k2==(9:Int)))) tZ)))))) (.ptr p 0 0) (tX (tX (tX (tX (tX (tX tZ (tY (.bool (k2==(1:Int))))) tZ) (tX (tX tZ (tY (.ptr p 0 0))) tZ)) (tX (tX (tX tZ (tY (.ptr p 0 3))) tZ) (tX tZ (tX (tY (.ptr q 0 0)) tZ)))) (tX (tX (tX (tX tZ (tY (.bool (decide (j > (0:Int)))))) tZ) (tX (tX tZ (tY (.ptr i7c i8c i9c))) (tX (tY (.ptr p 0 3)) tZ))) (tX (tX (tX tZ (tY (.ptr i4c i5c i6c))) (tX (tY (.ptr p 0 3)) tZ)) (tX tZ (tX (tY (.int .i64 k2)) tZ))))) (tW (tX (tX (tX (tX tZ (tY (.bool false))) tZ) (tX (tX tZ (tY sa)) (tX (tY (.ptr p 0 0)) tZ))) (tX (tX (tX tZ (tY (.int .i64 j))) (tX (tY (.ptr p 0 0)) tZ)) (tX tZ (tX (tY (.ptr q 0 0)) tZ)))) (.int .i64 k2) (tX (tX (tX (tX tZ (tY (.ptr p 0 0))) tZ) (tX (tX tZ (tY (.str wb))) (tX (tY (.int .i64 j)) tZ))) (tX (tX (tX tZ (tY (.str wa))) (tX (tY (.int .i64 z1c)) tZ)) (tX tZ (tX (tY (.bool false)) tZ))))))) [.drw (rg P (43:FuncId) [1,1,1,1,0,1,0,1,1,1,1,1,1,1,0,0,1,0,0,1,0,0,1,0]) [27,28,29,30] [26,18,25,24,23,22,21,20,19,17,16,15,14,13,12,11,10,9,8,7,6,5,4,3,2,1,0],cdi 43 [1,1,1,1,0,1,0,1,1,1,1,1,1,1,0,0,1,0,0,1,0,0,1,1],.inBlock 6,cdi 43 [1,1,1,1,0,1,0,1,1,1,1,1,1,1,0,0,1,0,0,1,1],ili 43 [1,1,1,1,0,1,0,1,1,1,1,1,1,1,0,0,1,0,0],.inBlock 5,cdi 43 [1,1,1,1,0,1,0,1,1,1,1,1,1,1,0,1],.inBlock 2,cdi 43 [1,1,1,1,1]]
end
section
variable {R:AV→AHeap→Prop} {keep N p i1c i2c i3c i4c i5c i6c i1cc i2cc i3cc q i7c i8c i9c:Nat} {f0:FuncId} {rest:List AFrame} {O:T AObj} {k j z1c k2:Int} {nm l1c l1cc l2c wa wb:List UInt8} {sn sa rp s1c s2c:AV} {G:T (T AV)} {K:AM→Prop} {td:List AItem} {br0 br1 br2:Bool}
theorem t_may:((lC O N G p 0 (.int .i64 k))∧((decide (k<(1:Int)))=true→(K (AM.mk (RF 43 225 (tX tZ (tY (.bool false))) [cdi 43 [1,0,1,0,1],cdi 43 [1,1]]) rest ⟨O,N,G⟩)))∧((decide (k<(1:Int)))=false→((lC O N G p 0 (.int .i64 k))∧((decide (k > (9:Int)))=true→(K (AM.mk (RF 43 225 (tX tZ (tY (.bool false))) [cdi 43 [1,0,1,0,1],cdi 43 [1,1]]) rest ⟨O,N,G⟩)))∧((decide (k > (9:Int)))=false→((lC O N G p 1 (.str nm))∧(lC O N G p 0 (.int .i64 k))∧(((!(!nm==([]:List UInt8))==(k==(6:Int))))=true→(K (AM.mk (RF 43 225 (tX tZ (tY (.bool false))) [cdi 43 [1,0,1,0,1],cdi 43 [1,1,1]]) rest ⟨O,N,G⟩)))∧(((!(!nm==([]:List UInt8))==(k==(6:Int))))=false→(∃ (z1:Int),(lC O N G p 2 sn)∧(lN O N G 32 sn z1)∧((decide (z1 > (0:Int)))=true→((lC O N G p 0 (.int .i64 k))∧(((k != (7:Int)))=true→(K (AM.mk (RF 43 225 (tX tZ (tY (.bool false))) [cdi 43 [1,0,1,0,1],cdi 43 [1,1,1]]) rest ⟨O,N,G⟩)))∧(((k != (7:Int)))=false→(∃ (z2:Int),(lC O N G p 3 sa)∧(lN O N G 33 sa z2)∧((decide (z2 > (0:Int)))=true→((lC O N G p 0 (.int .i64 k))∧((decide (k<(7:Int)))=true→(K (AM.mk (RF 43 225 (tX tZ (tY (.bool false))) [cdi 43 [1,0,1,0,1],cdi 43 [1,1,1]]) rest ⟨O,N,G⟩)))∧((decide (k<(7:Int)))=false→(∃ (b1:Bool),(lC O N G p 4 rp)∧(qq P (⟨O,N,G⟩) (BinOp.neq) (23) (true) (rp) (.nilp)=(some (.bool b1)))∧(lC O N G p 0 (.int .i64 k))∧(((!b1==(k==(8:Int))))=true→(K (AM.mk (RF 43 225 (tX tZ (tY (.bool false))) [cdi 43 [1,0,1,0,1],cdi 43 [1,1,1]]) rest ⟨O,N,G⟩)))∧(((!b1==(k==(8:Int))))=false→(K (Wma p 0 rest O N G)))))))∧((decide (z2 > (0:Int)))=false→(∃ (b1:Bool),(lC O N G p 4 rp)∧(qq P (⟨O,N,G⟩) (BinOp.neq) (23) (true) (rp) (.nilp)=(some (.bool b1)))∧(lC O N G p 0 (.int .i64 k))∧(((!b1==(k==(8:Int))))=true→(K (AM.mk (RF 43 225 (tX tZ (tY (.bool false))) [cdi 43 [1,0,1,0,1],cdi 43 [1,1,1]]) rest ⟨O,N,G⟩)))∧(((!b1==(k==(8:Int))))=false→(K (Wma p 0 rest O N G)))))))))∧((decide (z1 > (0:Int)))=false→(∃ (z2:Int),(lC O N G p 3 sa)∧(lN O N G 33 sa z2)∧((decide (z2 > (0:Int)))=true→((lC O N G p 0 (.int .i64 k))∧((decide (k<(7:Int)))=true→(K (AM.mk (RF 43 225 (tX tZ (tY (.bool false))) [cdi 43 [1,0,1,0,1],cdi 43 [1,1,1]]) rest ⟨O,N,G⟩)))∧((decide (k<(7:Int)))=false→(∃ (b1:Bool),(lC O N G p 4 rp)∧(qq P (⟨O,N,G⟩) (BinOp.neq) (23) (true) (rp) (.nilp)=(some (.bool b1)))∧(lC O N G p 0 (.int .i64 k))∧(((!b1==(k==(8:Int))))=true→(K (AM.mk (RF 43 225 (tX tZ (tY (.bool false))) [cdi 43 [1,0,1,0,1],cdi 43 [1,1,1]]) rest ⟨O,N,G⟩)))∧(((!b1==(k==(8:Int))))=false→(K (Wma p 0 rest O N G)))))))∧((decide (z2 > (0:Int)))=false→(∃ (b1:Bool),(lC O N G p 4 rp)∧(qq P (⟨O,N,G⟩) (BinOp.neq) (23) (true) (rp) (.nilp)=(some (.bool b1)))∧(lC O N G p 0 (.int .i64 k))∧(((!b1==(k==(8:Int))))=true→(K (AM.mk (RF 43 225 (tX tZ (tY (.bool false))) [cdi 43 [1,0,1,0,1],cdi 43 [1,1,1]]) rest ⟨O,N,G⟩)))∧(((!b1==(k==(8:Int))))=false→(K (Wma p 0 rest O N G))))))))))))))=OT f0 R keep K (.seq [.run 13,.hop (.int .i64 k) O,.run 3] (.fork 16 (.seq [.run 13,.keep [2]] .fin) (.seq [.run 3,.hop (.int .i64 k) O,.run 3] (.fork 22 (.seq [.run 6,.keep [2]] .fin) (.seq [.run 8,.hop (.str nm) O,.run 4,.hop (.int .i64 k) O,.run 3] (.fork 34 (.seq [.run 49,.keep [2]] .fin) (.ex fun z1:Int=>(.seq [.run 3,.hop (sn) O,.hopn (.int .i64 z1) O (N),.run 2] (.fork 41 (.seq [.run 3,.hop (.int .i64 k) O,.run 4] (.fork 49 (.seq [.run 34,.keep [2]] .fin) (.ex fun z2:Int=>(.seq [.run 3,.hop (sa) O,.hopn (.int .i64 z2) O (N),.run 2] (.fork 56 (.seq [.run 3,.hop (.int .i64 k) O,.run 4] (.fork 64 (.seq [.run 19,.keep [2]] .fin) (.ex fun b1:Bool=>(.seq [.run 3,.hop (rp) O,.hop (.bool b1) O,.run 3,.hop (.int .i64 k) O,.run 4] (.fork 76 (.seq [.run 6,.keep [2]] .fin) (.seq [.run 9,.keep [0,3]] .fin)))))) (.ex fun b1:Bool=>(.seq [.run 11,.hop (rp) O,.hop (.bool b1) O,.run 3,.hop (.int .i64 k) O,.run 4] (.fork 76 (.seq [.run 6,.keep [2]] .fin) (.seq [.run 9,.keep [0,3]] .fin))))))))) (.ex fun z2:Int=>(.seq [.run 11,.hop (sa) O,.hopn (.int .i64 z2) O (N),.run 2] (.fork 56 (.seq [.run 3,.hop (.int .i64 k) O,.run 4] (.fork 64 (.seq [.run 19,.keep [2]] .fin) (.ex fun b1:Bool=>(.seq [.run 3,.hop (rp) O,.hop (.bool b1) O,.run 3,.hop (.int .i64 k) O,.run 4] (.fork 76 (.seq [.run 6,.keep [2]] .fin) (.seq [.run 9,.keep [0,3]] .fin)))))) (.ex fun b1:Bool=>(.seq [.run 11,.hop (rp) O,.hop (.bool b1) O,.run 3,.hop (.int .i64 k) O,.run 4] (.fork 76 (.seq [.run 6,.keep [2]] .fin) (.seq [.run 9,.keep [0,3]] .fin)))))))))))))))) ((AM.mk (enF 43 [.ptr p 0 0]) rest ⟨O,N,G⟩)):=by kernel_rfl
theorem zgQ:(∃ (z1:Int),(lC O N G p 3 sa)∧(lN O N G 33 sa z1)∧((decide (j<z1))=true→(∃ (i1:Nat) (i2:Nat) (i3:Nat) (s1:AV),(lC O N G p 3 sa)∧(iX 33 sa j i1 i2 i3)∧(lR O N G i1 i2 i3 s1)∧K (AM.mk (enF 43 [s1]) ((zs5 p j s1)::rest) ⟨O,N,G⟩)))∧((decide (j<z1))=false→((lC O N G p 0 (.int .i64 k))∧(((k==(6:Int)))=true→((lC O N G p 1 (.str nm))∧K (AM.mk (enF 90 [.str nm]) ((zoo nm)::rest) ⟨O,N,G⟩)))∧(((k==(6:Int)))=false→((((k==(7:Int)))=true→(∃ (z2:Int) (z3:Int),(lC O N G p 2 sn)∧(lN O N G 32 sn z2)∧(lC O N G p 3 sa)∧(lN O N G 33 sa z3)∧(((z2 != z3))=true→(K (AM.mk (RF 43 225 (tX tZ (tY (.bool false))) [cdi 43 [1,0,1,0,1],cdi 43 [1,1,1,1,0,1,0,1,1,1,0,1],.inBlock 2,cdi 43 [1,1,1,1,1]]) rest ⟨O,N,G⟩)))∧(((z2 != z3))=false→(K (Wmb p 0 rest O N G)))))∧(((k==(7:Int)))=false→((((k==(8:Int)))=true→((lC O N G p 4 rp)∧K (AM.mk (enF 43 [rp]) ((zil rp)::rest) ⟨O,N,G⟩)))∧(((k==(8:Int)))=false→((((k==(9:Int)))=true→(K (Wmc p 0 rest O N G)))∧(((k==(9:Int)))=false→(K (AM.mk (RF 43 225 (tX tZ (tY (.bool true))) [cdi 43 [1,0,1,0,1]]) rest ⟨O,N,G⟩))))))))))))=OT f0 R keep K (.ex fun z1:Int=>(.seq [.run 7,.hop (sa) O,.hopn (.int .i64 z1) O (N),.run 2] (.fork 83 (.ex fun i1:Nat=>(.ex fun i2:Nat=>(.ex fun i3:Nat=>(.ex fun s1:AV=>(.seq [.run 9,.hop (sa) O,.run 1,.hopn (.ptr i1 i2 i3) O (N),.hop (s1) O,.keep [0,3,92],.run 1] .fin))))) (.seq [.run 8,.hop (.int .i64 k) O,.run 7] (.fork 99 (.seq [.run 6,.hop (.str nm) O,.keep [104],.run 1] .fin) (.seq [.run 6] (.fork 106 (.ex fun z2:Int=>(.ex fun z3:Int=>(.seq [.run 7,.hop (sn) O,.hopn (.int .i64 z2) O (N),.run 3,.hop (sa) O,.hopn (.int .i64 z3) O (N),.run 2] (.fork 118 (.seq [.run 6,.keep [2]] .fin) (.seq [.run 8,.keep [0,4]] .fin))))) (.seq [.run 6] (.fork 160 (.seq [.run 6,.hop (rp) O,.keep [165],.run 1] .fin) (.seq [.run 6] (.fork 167 (.seq [.run 8,.keep [0,5]] .fin) (.seq [.run 8,.keep [2]] .fin)))))))))))) ((Wma p j rest O N G)):=by kernel_rfl
theorem ze0:((((!br0))=true→(K (AM.mk (RF 43 225 (tX tZ (tY (.bool false))) [cdi 43 [1,0,1,0,1],.inBlock 1,cdi 43 [1,1,1,0,1,0,0,1,1],ili 43 [1,1,1,0,1,0,0],.inBlock 0,cdi 43 [1,1,1,1]]) rest ⟨O,N,G⟩)))∧(((!br0))=false→(K (Wma p (IntKind.i64.wrap (j+(1:Int))) rest O N G))))=OT f0 R keep K (.seq [.run 3] (.fork 94 (.seq [.run 6,.keep [2]] .fin) (.seq [.run 9,.keep [0,3]] .fin))) ((AM.mk (RF 43 225 (tX tZ (tY (.bool br0))) td) ((zs5 p j s1c)::rest) ⟨O,N,G⟩)):=by kernel_rfl
theorem ziZ:(K (AM.mk (RF 43 225 (tX tZ (tY (.bool br0))) [cdi 43 [1,0,1,0,1],.inBlock 2,cdi 43 [1,1,1,1,1]]) rest ⟨O,N,G⟩))=OT f0 R keep K (.seq [.run 4,.keep [2]] .fin) ((AM.mk (RF 90 45 (tX tZ (tY (.bool br0))) td) ((zoo nm)::rest) ⟨O,N,G⟩)):=by kernel_rfl
theorem zfy:(K (AM.mk (RF 43 225 (tX tZ (tY (.bool br0))) [cdi 43 [1,0,1,0,1],.inBlock 2,cdi 43 [1,1,1,1,1]]) rest ⟨O,N,G⟩))=OT f0 R keep K (.seq [.run 4,.keep [2]] .fin) ((AM.mk (RF 43 225 (tX tZ (tY (.bool br0))) td) ((zil rp)::rest) ⟨O,N,G⟩)):=by kernel_rfl
theorem zrV:(∃ (z1:Int),(lC O N G p 2 sn)∧(lN O N G 32 sn z1)∧((decide (j<z1))=true→(∃ (i1:Nat) (i2:Nat) (i3:Nat) (l1:List UInt8),(lC O N G p 2 sn)∧(iX 32 sn j i1 i2 i3)∧(lR O N G i1 i2 i3 (.str l1))∧K (AM.mk (enF 63 [.str l1]) ((ztn p sn j i1 i2 i3 z1 l1)::rest) ⟨O,N,G⟩)))∧((decide (j<z1))=false→(K (AM.mk (RF 43 225 (tX tZ (tY (.bool true))) [cdi 43 [1,0,1,0,1]]) rest ⟨O,N,G⟩))))=OT f0 R keep K (.ex fun z1:Int=>(.seq [.run 7,.hop (sn) O,.hopn (.int .i64 z1) O (N),.run 2] (.fork 125 (.ex fun i1:Nat=>(.ex fun i2:Nat=>(.ex fun i3:Nat=>(.ex fun l1:List UInt8=>(.seq [.run 9,.hop (sn) O,.run 1,.hopn (.ptr i1 i2 i3) O (N),.hop (.str l1) O,.run 1] .fin))))) (.seq [.run 8,.keep [2]] .fin)))) ((Wmb p j rest O N G)):=by kernel_rfl
theorem zbA:((((!br0))=true→(K (AM.mk (RF 43 225 (tX tZ (tY (.bool false))) [cdi 63 [1,0,1,0,1],.inBlock 4,cdi 43 [1,1,1,1,0,1,0,1,1,1,0,1,1,0,0,1,1],ili 43 [1,1,1,1,0,1,0,1,1,1,0,1,1,0,0],.inBlock 3,.inBlock 2,cdi 43 [1,1,1,1,1]]) rest ⟨O,N,G⟩)))∧(((!br0))=false→(((decide (j > (0:Int)))=true→(∃ (i1:Nat) (i2:Nat) (i3:Nat) (l1:List UInt8) (i4:Nat) (i5:Nat) (i6:Nat) (l2:List UInt8),(lC O N G p 2 sn)∧(zf P (32) (sn) (.int .i64 (IntKind.i64.wrap (j - (1:Int))))=(some (.ptr i1 i2 i3)))∧(lR O N G i1 i2 i3 (.str l1))∧(lC O N G p 2 sn)∧(iX 32 sn j i4 i5 i6)∧(lR O N G i4 i5 i6 (.str l2))∧K (AM.mk (enF 64 [.str l1,.str l2]) ((zc5 p sn j i1 i2 i3 i4 i5 i6 l1 l2 z1c l1c i1c i2c i3c br0)::rest) ⟨O,N,G⟩)))∧((decide (j > (0:Int)))=false→(K (Wmb p (IntKind.i64.wrap (j+(1:Int))) rest O N G))))))=OT f0 R keep K (.seq [.run 3] (.fork 137 (.seq [.run 29,.keep [2]] .fin) (.seq [.run 3] (.fork 140 (.ex fun i1:Nat=>(.ex fun i2:Nat=>(.ex fun i3:Nat=>(.ex fun l1:List UInt8=>(.ex fun i4:Nat=>(.ex fun i5:Nat=>(.ex fun i6:Nat=>(.ex fun l2:List UInt8=>(.seq [.run 3,.hop (sn) O,.run 2,.hopn (.ptr i1 i2 i3) O (N),.hop (.str l1) O,.run 3,.hop (sn) O,.run 1,.hopn (.ptr i4 i5 i6) O (N),.hop (.str l2) O,.run 1] .fin))))))))) (.seq [.run 29,.keep [0,4]] .fin))))) ((AM.mk (RF 63 41 (tX tZ (tY (.bool br0))) td) ((ztn p sn j i1c i2c i3c z1c l1c)::rest) ⟨O,N,G⟩)):=by kernel_rfl
theorem vJ:((((!br1))=true→(K (AM.mk (RF 43 225 (tX tZ (tY (.bool false))) [cdi 64 [1,0,1,0,0,1,0,0,1,0,1],.inBlock 4,cdi 43 [1,1,1,1,0,1,0,1,1,1,0,1,1,0,0,1,1],ili 43 [1,1,1,1,0,1,0,1,1,1,0,1,1,0,0],.inBlock 3,.inBlock 2,cdi 43 [1,1,1,1,1]]) rest ⟨O,N,G⟩)))∧(((!br1))=false→(K (Wmb p (IntKind.i64.wrap (j+(1:Int))) rest O N G))))=OT f0 R keep K (.seq [.run 5] (.fork 159 (.seq [.run 6,.keep [2]] .fin) (.seq [.run 9,.keep [0,4]] .fin))) ((AM.mk (RF 64 37 (tX tZ (tX (tY (.bool br1)) tZ)) td) ((zc5 p sn j i1cc i2cc i3cc i4c i5c i6c l1cc l2c z1c l1c i1c i2c i3c br0)::rest) ⟨O,N,G⟩)):=by kernel_rfl
theorem zlz:(∃ (z1:Int),(lC O N G p 3 sa)∧(lN O N G 33 sa z1)∧((decide (j<z1))=true→(∃ (i1:Nat) (i2:Nat) (i3:Nat),(lC O N G p 3 sa)∧(iX 33 sa j i1 i2 i3)∧(lR O N G i1 i2 i3 (.ptr q 0 0))∧(lC O N G q 0 (.int .i64 k2))∧(((k2==(9:Int)))=true→(K (AM.mk (RF 43 225 (tX tZ (tY (.bool false))) [cdi 43 [1,0,1,0,1],.inBlock 6,cdi 43 [1,1,1,1,0,1,0,1,1,1,1,1,1,1,0,0,1,0,0,1,1],ili 43 [1,1,1,1,0,1,0,1,1,1,1,1,1,1,0,0,1,0,0],.inBlock 5,cdi 43 [1,1,1,1,0,1,0,1,1,1,1,1,1,1,0,1],.inBlock 2,cdi 43 [1,1,1,1,1]]) rest ⟨O,N,G⟩)))∧(((k2==(9:Int)))=false→((((k2==(1:Int)))=true→(K (AM.mk (RF 43 225 (tX tZ (tY (.bool false))) [cdi 43 [1,0,1,0,1],.inBlock 6,cdi 43 [1,1,1,1,0,1,0,1,1,1,1,1,1,1,0,0,1,0,0,1,1],ili 43 [1,1,1,1,0,1,0,1,1,1,1,1,1,1,0,0,1,0,0],.inBlock 5,cdi 43 [1,1,1,1,0,1,0,1,1,1,1,1,1,1,0,1],.inBlock 2,cdi 43 [1,1,1,1,1]]) rest ⟨O,N,G⟩)))∧(((k2==(1:Int)))=false→(((decide (j > (0:Int)))=true→(∃ (i4:Nat) (i5:Nat) (i6:Nat) (s1:AV) (i7:Nat) (i8:Nat) (i9:Nat) (s2:AV),(lC O N G p 3 sa)∧(zf P (33) (sa) (.int .i64 (IntKind.i64.wrap (j - (1:Int))))=(some (.ptr i4 i5 i6)))∧(lR O N G i4 i5 i6 s1)∧(lC O N G p 3 sa)∧(iX 33 sa j i7 i8 i9)∧(lR O N G i7 i8 i9 s2)∧K (AM.mk (enF 48 [s1]) ((zhT p q k2 sa j i1 i2 i3 i4 i5 i6 i7 i8 i9 s1 s2 z1)::rest) ⟨O,N,G⟩)))∧((decide (j > (0:Int)))=false→(K (Wmc p (IntKind.i64.wrap (j+(1:Int))) rest O N G)))))))))∧((decide (j<z1))=false→(∃ (z2:Int),(lC O N G p 3 sa)∧(lN O N G 33 sa z2)∧K (AM.mk (RF 43 225 (tX tZ (tY (.bool (decide (z2≥(2:Int)))))) [cdi 43 [1,0,1,0,1],.inBlock 2,cdi 43 [1,1,1,1,1]]) rest ⟨O,N,G⟩))))=OT f0 R keep K (.ex fun z1:Int=>(.seq [.run 7,.hop (sa) O,.hopn (.int .i64 z1) O (N),.run 2] (.fork 175 (.ex fun i1:Nat=>(.ex fun i2:Nat=>(.ex fun i3:Nat=>(.seq [.run 9,.hop (sa) O,.run 1,.hopn (.ptr i1 i2 i3) O (N),.hop (.ptr q 0 0) O,.run 2,.hop (.int .i64 k2) O,.run 7] (.fork 190 (.seq [.run 35,.keep [2]] .fin) (.seq [.run 4] (.fork 194 (.seq [.run 31,.keep [2]] .fin) (.seq [.run 3] (.fork 197 (.ex fun i4:Nat=>(.ex fun i5:Nat=>(.ex fun i6:Nat=>(.ex fun s1:AV=>(.ex fun i7:Nat=>(.ex fun i8:Nat=>(.ex fun i9:Nat=>(.ex fun s2:AV=>(.seq [.run 3,.hop (sa) O,.run 2,.hopn (.ptr i4 i5 i6) O (N),.hop (s1) O,.run 3,.hop (sa) O,.run 1,.hopn (.ptr i7 i8 i9) O (N),.hop (s2) O,.run 1] .fin))))))))) (.seq [.run 31,.keep [0,5]] .fin)))))))))) (.ex fun z2:Int=>(.seq [.run 7,.hop (sa) O,.hopn (.int .i64 z2) O (N),.run 4,.keep [2]] .fin))))) ((Wmc p j rest O N G)):=by kernel_rfl
theorem zeM:((True)∧(lR O N G i7c i8c i9c s2c)∧(okD 300 s2c=true)∧(lC O N G p 3 sa)∧(okD 300 sa=true)∧K (AM.mk (enF 48 [s2c]) ((zbi p q k2 sa j z1c s1c wa i1c i2c i3c i4c i5c i6c i7c i8c i9c s2c)::rest) ⟨O,N,G⟩))=OT f0 R keep K (.seq [.hret [.nilp],.run 1] .fin) ((AM.mk (RF 48 146 (tX tZ (tY (.str wa))) td) ((zhT p q k2 sa j i1c i2c i3c i4c i5c i6c i7c i8c i9c s1c s2c z1c)::rest) ⟨O,N,G⟩)):=by kernel_rfl
theorem zbM:(K (AM.mk (enF 64 [.str wa,.str wb]) ((vP p q k2 sa j z1c s1c wa wb i1c i2c i3c i4c i5c i6c i7c i8c i9c s2c)::rest) ⟨O,N,G⟩))=OT f0 R keep K (.seq [.run 2] .fin) ((AM.mk (RF 48 146 (tX tZ (tY (.str wb))) td) ((zbi p q k2 sa j z1c s1c wa i1c i2c i3c i4c i5c i6c i7c i8c i9c s2c)::rest) ⟨O,N,G⟩)):=by kernel_rfl
theorem qd:((((!br2))=true→(K (AM.mk (RF 43 225 (tX tZ (tY (.bool false))) [cdi 64 [1,0,1,0,0,1,0,0,1,0,1],.inBlock 6,cdi 43 [1,1,1,1,0,1,0,1,1,1,1,1,1,1,0,0,1,0,0,1,1],ili 43 [1,1,1,1,0,1,0,1,1,1,1,1,1,1,0,0,1,0,0],.inBlock 5,cdi 43 [1,1,1,1,0,1,0,1,1,1,1,1,1,1,0,1],.inBlock 2,cdi 43 [1,1,1,1,1]]) rest ⟨O,N,G⟩)))∧(((!br2))=false→(K (Wmc p (IntKind.i64.wrap (j+(1:Int))) rest O N G))))=OT f0 R keep K (.seq [.run 5] (.fork 218 (.seq [.run 6,.keep [2]] .fin) (.seq [.run 9,.keep [0,5]] .fin))) ((AM.mk (RF 64 37 (tX tZ (tX (tY (.bool br2)) tZ)) td) ((vP p q k2 sa j z1c s1c wa wb i1c i2c i3c i4c i5c i6c i7c i8c i9c s2c)::rest) ⟨O,N,G⟩)):=by kernel_rfl
theorem t_mno:(K (AM.mk (RF 43 225 (tX tZ (tY (.bool false))) [cdi 43 [1,0,1,0,1],cdi 43 [1,1]]) rest ⟨O,N,G⟩))=OT f0 R keep K (.seq [.run 30,.keep [2]] .fin) ((AM.mk (enF 43 [.nilp]) rest ⟨O,N,G⟩)):=by kernel_rfl
end
variable {O O':T AObj} {N:Nat} {G:T (T AV)}
def MC (G:T (T AV)) (t:Ty):Prop:=∀ (keep:Nat) (f0:FuncId) (Q:AV→AHeap→Prop) (hi:Nat) (p:Option Nat) (rest:List AFrame) (O:T AObj) (N:Nat),Tr O hi t p→hi≤N →
 (∀ O' N' td,Ext O N O' N'→Goal P keep f0 Q (AM.mk (RF 43 225 (tX tZ (tY (.bool (okT t)))) td) rest ⟨O',N',G⟩))→Goal P keep f0 Q (AM.mk (enF 43 [pv p]) rest ⟨O,N,G⟩)
theorem zmj {l:List (List UInt8)}{i:Nat}{a b:List UInt8}(ha:l[i]?=some a)(hb:l[i+1]?=some b):qL (l.drop i)=(Op.bytesLess a b&&qL (l.drop (i+1))):=by
 rw [zr ha,zr hb]; rfl
theorem zhS {l:List (List UInt8)}{i:Nat}(h:l.length≤i+1):qL (l.drop i)=true:=by
 cases e:l.drop i with
 | nil=>rfl
 | cons a r =>
  have:=congrArg List.length e;rw [List.length_drop,List.length_cons] at this;cases r with
  | nil=>rfl
  | cons b r=>simp only [List.length_cons] at this; omega
theorem zkV:∀ (m:Nat) (t:Ty),cnt t≤m∧cnt t≤60→MC G t
 | m,.no,hm=>by
  intro keep f0 Q hi p rest O N ht hN hK;have hp:p=none:=(ht.isNo.1).2 rfl;subst hp;rw [xX] at hK;exact (ot t_mno (hK O N _ Ext.refl))
 | 0,.mk k nm ns ts r,hm=>by rw [z9] at hm; omega
 | m+1,.mk k nm ns ts r,hm=>by
  intro keep f0 Q hi p rest O N ht hN hK;obtain ⟨id,sn,sa,ps,q,rfl,i1',i2',i3',i4',i5',i6',i7',i8',i9'⟩:=ht.inv;rw [z9] at hm;rw [zbQ,wY] at hK;have hgo:own k nm ns ts r=true→Goal P keep f0 Q (Wma id 0 rest O N G):=by
   intro hw;have hf:=wQ hw;rw [hw,Bool.true_and] at hK;have kinds:∀ (O2:T AObj) (N2:Nat),Ext O N O2 N2→ts.all okT=true→∀ i,i=ts.length→Goal P keep f0 Q (Wma id ((i:Nat):Int) rest O2 N2 G):=by
    intro O2 N2 ex hall i hi';have exle:=ex.1;have tO2:=i2'.same (ex.2 id (by omega));have sO2:=i4'.keep (O':=O2) (fun j _ hj=>ex.2 j (by omega)) (Nat.le_refl 0) (Nat.le_refl hi);have nO2:=i3'.keep (O':=O2) (fun j _ hj=>ex.2 j (by omega)) (Nat.le_refl 0) (Nat.le_refl hi);rw [hall,Bool.true_and] at hK;have hok:∀ x∈ts,okT x=true:=List.all_eq_true.1 hall;have r2:=i9'.same (O':=O2) (fun j hj=>ex.2 j (by omega)) (Nat.le_refl _)
    by_cases k6:k=6
    ·have hr:isNo r=true:=by
      cases h:isNo r with
      | true=>rfl
      | false=>have:=(hf.2.1).2 h; omega
     rw [hr,Bool.true_or,Bool.true_and,show okK k nm ns ts=zK nm from by unfold okK; rw [if_pos k6]] at hK
     refine (ot (zgQ (k:=k) (nm:=nm) (sn:=.nilp) (sa:=sa) (rp:=.nilp) (j:=((i:Nat):Int))) ⟨((ts.length:Nat):Int),tO2.ld 3 rfl,by rw [← i5']; exact sO2.len pSl _ _,fkf (decide_eq_false (by omega)) ⟨tO2.ld 0 rfl,fkt (beq_iff_eq.2 k6) ⟨tO2.ld 1 rfl,?_⟩⟩⟩);refine zrU nm fun td=>?_;exact (ot (ziZ (br0:=(zK nm))) (hK O2 N2 _ ex))
    have b6:(k==(6:Int))=false:=beq_eq_false_iff_ne.2 k6
    by_cases k7:k=7
    ·have hr:isNo r=true:=by
      cases h:isNo r with
      | true=>rfl
      | false=>have:=(hf.2.1).2 h; omega
     rw [hr,Bool.true_or,Bool.true_and,show okK k nm ns ts=(decide (ns.length=ts.length)&&ns.all zh&&qL ns) from by unfold okK; rw [if_neg k6,if_pos k7]] at hK
     by_cases hl:ns.length=ts.length
     ·rw [decide_eq_true hl,Bool.true_and] at hK;refine (ot (zgQ (k:=k) (nm:=[]) (sn:=sn) (sa:=sa) (rp:=.nilp) (j:=((i:Nat):Int))) ⟨((ts.length:Nat):Int),tO2.ld 3 rfl,by rw [← i5']; exact sO2.len pSl _ _,fkf (decide_eq_false (by omega)) ⟨tO2.ld 0 rfl,fkf b6 (fkt (beq_iff_eq.2 k7) ⟨((ns.length:Nat):Int),((ts.length:Nat):Int),tO2.ld 2 rfl,nO2.len sSl _ _,tO2.ld 3 rfl,by rw [← i5']; exact sO2.len pSl _ _,fkf (by rw [hl]; exact bne_self_eq_false _) ?_⟩)⟩⟩);have loop:∀ (k' i:Nat),i+k'=ns.length→(ns.all zh&&qL ns)=((ns.drop i).all zh&&qL (ns.drop (i - 1)))→(∀ s∈ns.take i,zh s=true)→Goal P keep f0 Q (Wmb id ((i:Nat):Int) rest O2 N2 G):=by
       intro k'
       induction k' with
       | zero =>
        intro i hk hv _;rw [List.drop_of_length_le (l:=ns) (i:=i) (by omega),zhS (by omega)] at hv;rw [hv] at hK;exact (ot (zrV (sn:=sn) (j:=((i:Nat):Int))) ⟨((ns.length:Nat):Int),tO2.ld 2 rfl,nO2.len sSl _ _,fkf (decide_eq_false (by omega)) (hK O2 N2 _ ex)⟩)
       | succ k' ih =>
        intro i hk hv hall';obtain ⟨n,hw2,hnm⟩:=nth (l:=ns) (j:=i) (by omega);obtain ⟨i1,i2,i3,lo1,hi1,eA,rd,_⟩:=nO2.at sSl sEn hw2;rw [zr hw2,List.all_cons] at hv;refine (ot (zrV (sn:=sn) (j:=((i:Nat):Int))) ⟨((ns.length:Nat):Int),tO2.ld 2 rfl,nO2.len sSl _ _,fkt (decide_eq_true (by omega)) ⟨_,_,_,n,tO2.ld 2 rfl,eA,rd.load rfl _ _,?_⟩⟩);refine zpC n fun td=>?_;rcases Bool.eq_false_or_eq_true (zh n) with hfn | hfn;rotate_left
        ·rw [hfn,Bool.false_and,Bool.false_and] at hv;rw [hv] at hK;exact (ot (zbA (j:=((i:Nat):Int)) (z1c:=((ns.length:Nat):Int)) (br0:=(zh n))) (fkt (by rw [hfn]; rfl) (hK O2 N2 _ ex)))
        rw [hfn,Bool.true_and] at hv;have hall2:∀ s∈ns.take (i+1),zh s=true:=by
         intro s hs;rw [List.take_add_one,hw2] at hs;rcases List.mem_append.1 hs with h | h
         ·exact hall' s h
         ·simp at h; rw [h]; exact hfn
        by_cases h0:i=0
        ·subst h0;have nx:=ih 1 (by omega) hv hall2;exact (ot (zbA (j:=((0:Nat):Int)) (z1c:=((ns.length:Nat):Int)) (br0:=(zh n))) (fkf (by rw [hfn]; rfl) (fkf rfl nx)))
        ·obtain ⟨a,ha,_⟩:=nth (l:=ns) (j:=i - 1) (by omega);have w1:IntKind.i64.wrap (((i:Nat):Int) - (1:Int))=((i - 1:Nat):Int):=by rw [IntKind.wrap_i64]; omega
         obtain ⟨j1,j2,j3,lo2,hi2,eB,rdB,_⟩:=nO2.at sSl sEn ha;rw [← w1] at eB;have hfa:zh a=true:=hall2 a (by
          rw [List.mem_iff_getElem?];exact ⟨i - 1,by rw [List.getElem?_take_of_lt (by omega),ha]⟩)
         have la:=yM hfa;have lb:=yM hfn;refine (ot (zbA (j:=((i:Nat):Int)) (z1c:=((ns.length:Nat):Int)) (br0:=(zh n))) (fkf (by rw [hfn]; rfl) (fkt (decide_eq_true (by omega)) ⟨j1,j2,j3,a,i1,i2,i3,n,tO2.ld 2 rfl,eB,rdB.load rfl _ _,tO2.ld 2 rfl,eA,rd.load rfl _ _,?_⟩)));refine ziq a n (by omega) (by omega) fun td=>?_;have hr2:qL (ns.drop (i - 1))=(Op.bytesLess a n&&qL (ns.drop i)):=by
          have:=zmj ha (b:=n) (by rw [show i - 1+1=i by omega]; exact hw2);rw [show i - 1+1=i by omega] at this;exact this
         rw [hr2] at hv;rcases Bool.eq_false_or_eq_true (Op.bytesLess a n) with hlt | hlt
         ·rw [hlt,Bool.true_and] at hv;have nx:=ih (i+1) (by omega) (by rw [Nat.add_sub_cancel]; exact hv) hall2;rw [← zq (i:=i) (by omega)] at nx;exact (ot (vJ (j:=((i:Nat):Int)) (z1c:=((ns.length:Nat):Int)) (br0:=(zh n)) (br1:=(Op.bytesLess a n))) (fkf (by rw [hlt]; rfl) nx))
         ·rw [hlt,Bool.false_and,Bool.and_false] at hv;rw [hv] at hK;exact (ot (vJ (j:=((i:Nat):Int)) (z1c:=((ns.length:Nat):Int)) (br0:=(zh n)) (br1:=(Op.bytesLess a n))) (fkt (by rw [hlt]; rfl) (hK O2 N2 _ ex)))
      exact loop ns.length 0 (Nat.zero_add _) rfl (fun s hs=>by simp at hs)
     ·rw [decide_eq_false hl,Bool.false_and,Bool.false_and] at hK;exact (ot (zgQ (k:=k) (nm:=[]) (sn:=sn) (sa:=sa) (rp:=.nilp) (j:=((i:Nat):Int))) ⟨((ts.length:Nat):Int),tO2.ld 3 rfl,by rw [← i5']; exact sO2.len pSl _ _,fkf (decide_eq_false (by omega)) ⟨tO2.ld 0 rfl,fkf b6 (fkt (beq_iff_eq.2 k7) ⟨((ns.length:Nat):Int),((ts.length:Nat):Int),tO2.ld 2 rfl,nO2.len sSl _ _,tO2.ld 3 rfl,by rw [← i5']; exact sO2.len pSl _ _,fkt (bne_iff_ne.2 (by omega)) (hK O2 N2 _ ex)⟩)⟩⟩)
    have b7:(k==(7:Int))=false:=beq_eq_false_iff_ne.2 k7
    by_cases k8:k=8
    ·have hr:isNo r=false:=(hf.2.1).1 k8;rw [hr,Bool.false_or,show okK k nm ns ts=true from by unfold okK; rw [if_neg (by omega),if_neg (by omega),if_neg (by omega)],Bool.and_true] at hK
     refine (ot (zgQ (k:=k) (nm:=[]) (sn:=.nilp) (sa:=sa) (rp:=(pv q)) (j:=((i:Nat):Int))) ⟨((ts.length:Nat):Int),tO2.ld 3 rfl,by rw [← i5']; exact sO2.len pSl _ _,fkf (decide_eq_false (by omega)) ⟨tO2.ld 0 rfl,fkf b6 (fkf b7 (fkt (beq_iff_eq.2 k8) ⟨tO2.ld 4 rfl,?_⟩))⟩⟩);refine zkV m r (by omega) keep f0 Q hi q _ O2 N2 r2 (by omega) fun O3 N3 td ex3=>?_;exact (ot (zfy (rp:=(pv q)) (br0:=(okT r))) (hK O3 N3 _ (ex.trans ex3)))
    have b8:(k==(8:Int))=false:=beq_eq_false_iff_ne.2 k8;have hr:isNo r=true:=by
     cases h:isNo r with
     | true=>rfl
     | false=>have:=(hf.2.1).2 h; omega
    rw [hr,Bool.true_or,Bool.true_and] at hK
    by_cases k9:k=9
    ·rw [show okK k nm ns ts=(decide (2≤ts.length)&&ts.all (fun x=>!(kd x==9 || kd x==1))&&qL (ts.map wr)) from by unfold okK; rw [if_neg k6,if_neg k7,if_pos k9]] at hK
     refine (ot (zgQ (k:=k) (nm:=[]) (sn:=.nilp) (sa:=sa) (rp:=.nilp) (j:=((i:Nat):Int))) ⟨((ts.length:Nat):Int),tO2.ld 3 rfl,by rw [← i5']; exact sO2.len pSl _ _,fkf (decide_eq_false (by omega)) ⟨tO2.ld 0 rfl,fkf b6 (fkf b7 (fkf b8 (fkt (beq_iff_eq.2 k9) ?_)))⟩⟩);have loop:∀ (k' i:Nat) (O3:T AObj) (N3:Nat),i+k'=ts.length→Ext O N O3 N3→(decide (2≤ts.length)&&ts.all (fun x=>!(kd x==9 || kd x==1))&&qL (ts.map wr))=(decide (2≤ts.length)&&((ts.drop i).all (fun x=>!(kd x==9 || kd x==1))&&qL ((ts.map wr).drop (i - 1))))→Goal P keep f0 Q (Wmc id ((i:Nat):Int) rest O3 N3 G):=by
      intro k'
      induction k' with
      | zero =>
       intro i O3 N3 hk ex3 hv;rw [List.drop_of_length_le (l:=ts) (by omega),zhS (by rw [List.length_map]; omega)] at hv;rw [hv] at hK;have t3:=i2'.same (ex3.2 id (by omega));have s3:=i4'.keep (O':=O3) (fun j _ hj=>ex3.2 j (by omega)) (Nat.le_refl 0) (Nat.le_refl hi);simp only [List.all_nil,Bool.true_and,Bool.and_true] at hK;rw [show decide (2≤ts.length)=decide (((ts.length:Nat):Int)≥2) from by rw [decide_eq_decide]; omega] at hK
       exact (ot (zlz (q:=0) (k2:=0) (sa:=sa) (j:=((i:Nat):Int))) ⟨((ts.length:Nat):Int),t3.ld 3 rfl,by rw [← i5']; exact s3.len pSl _ _,fkf (decide_eq_false (by omega)) ⟨((ts.length:Nat):Int),t3.ld 3 rfl,by rw [← i5']; exact s3.len pSl _ _,hK O3 N3 _ ex3⟩⟩)
      | succ k' ih =>
       intro i O3 N3 hk ex3 hv;have n3:=ex3.1;have t3:=i2'.same (ex3.2 id (by omega));have s3:=i4'.keep (O':=O3) (fun j _ hj=>ex3.2 j (by omega)) (Nat.le_refl 0) (Nat.le_refl hi);obtain ⟨x,hx,hxm⟩:=nth (l:=ts) (j:=i) (by omega);obtain ⟨y,hy',_⟩:=nth (l:=ps) (j:=i) (by omega);have hcm:=xf hxm;have okx:=hok x hxm;have tx:=(i8' i x y hx hy').same (O':=O3) (fun j hj=>ex3.2 j (by omega)) (Nat.le_refl _);obtain ⟨k2,nm2,ns2,ts2,r2',rfl⟩:∃ k2 nm2 ns2 ts2 r2,x=Ty.mk k2 nm2 ns2 ts2 r2:=by
        cases x with
        | no=>rw [xX] at okx; cases okx
        | mk a b c d e=>exact ⟨a,b,c,d,e,rfl⟩
       obtain ⟨q2,_,_,_,_,hyq,qlt,xO,_⟩:=tx.inv;subst hyq;rw [zr hx,List.all_cons,show kd (Ty.mk k2 nm2 ns2 ts2 r2')=k2 from rfl] at hv
       obtain ⟨i1,i2,i3,lo1,hi1,eA,rd,_⟩:=s3.at pSl pEn hy';rcases Bool.eq_false_or_eq_true (k2==9) with h9 | h9
       ·rw [h9,Bool.true_or,Bool.not_true,Bool.false_and,Bool.false_and,Bool.and_false] at hv;rw [hv] at hK;exact (ot (zlz (q:=q2) (k2:=k2) (sa:=sa) (j:=((i:Nat):Int))) ⟨((ts.length:Nat):Int),t3.ld 3 rfl,by rw [← i5']; exact s3.len pSl _ _,fkt (decide_eq_true (by omega)) ⟨_,_,_,t3.ld 3 rfl,eA,rd.load rfl _ _,xO.ld 0 rfl,fkt h9 (hK O3 N3 _ ex3)⟩⟩)
       rcases Bool.eq_false_or_eq_true (k2==1) with h1 | h1
       ·rw [h1,Bool.or_true,Bool.not_true,Bool.false_and,Bool.false_and,Bool.and_false] at hv;rw [hv] at hK;exact (ot (zlz (q:=q2) (k2:=k2) (sa:=sa) (j:=((i:Nat):Int))) ⟨((ts.length:Nat):Int),t3.ld 3 rfl,by rw [← i5']; exact s3.len pSl _ _,fkt (decide_eq_true (by omega)) ⟨_,_,_,t3.ld 3 rfl,eA,rd.load rfl _ _,xO.ld 0 rfl,fkf h9 (fkt h1 (hK O3 N3 _ ex3))⟩⟩)
       rw [h9,h1,Bool.or_false,Bool.not_false,Bool.true_and] at hv
       by_cases h0:i=0
       ·subst h0;have nx:=ih 1 O3 N3 (by omega) ex3 hv;exact (ot (zlz (q:=q2) (k2:=k2) (sa:=sa) (j:=((0:Nat):Int))) ⟨((ts.length:Nat):Int),t3.ld 3 rfl,by rw [← i5']; exact s3.len pSl _ _,fkt (decide_eq_true (by omega)) ⟨_,_,_,t3.ld 3 rfl,eA,rd.load rfl _ _,xO.ld 0 rfl,fkf h9 (fkf h1 (fkf rfl nx))⟩⟩)
       ·obtain ⟨x',hx',hxm'⟩:=nth (l:=ts) (j:=i - 1) (by omega);obtain ⟨y',hy2,_⟩:=nth (l:=ps) (j:=i - 1) (by omega);have hcm':=xf hxm';have w1:IntKind.i64.wrap (((i:Nat):Int) - (1:Int))=((i - 1:Nat):Int):=by rw [IntKind.wrap_i64]; omega
        obtain ⟨j1,j2,j3,lo2,hi2,eB,rdB,_⟩:=s3.at pSl pEn hy2;rw [← w1] at eB;have tx':=(i8' (i - 1) x' y' hx' hy2).same (O':=O3) (fun j hj=>ex3.2 j (by omega)) (Nat.le_refl _);refine (ot (zlz (q:=q2) (k2:=k2) (sa:=sa) (j:=((i:Nat):Int))) ⟨((ts.length:Nat):Int),t3.ld 3 rfl,by rw [← i5']; exact s3.len pSl _ _,fkt (decide_eq_true (by omega)) ⟨_,_,_,t3.ld 3 rfl,eA,rd.load rfl _ _,xO.ld 0 rfl,fkf h9 (fkf h1 (fkt (decide_eq_true (by omega)) ⟨j1,j2,j3,(pv y'),i1,i2,i3,(.ptr q2 0 0),t3.ld 3 rfl,eB,rdB.load rfl _ _,t3.ld 3 rfl,eA,rd.load rfl _ _,?_⟩))⟩⟩);refine ke (cnt x') x' y' _ O3 N3 ⟨Nat.le_refl _,by omega⟩ (hok x' hxm') tx' (by omega) fun O4 N4 td ex4=>?_;have n4:=ex4.1;have t4:=t3.same (ex4.2 id (by omega));have s4:=s3.keep (O':=O4) (fun j _ hj=>ex4.2 j (by omega)) (Nat.le_refl 0) (Nat.le_refl hi);have rdA4:=rd.same (O':=O4) (ex4.2 _ (by omega));have rdB4:=rdB.same (O':=O4) (ex4.2 _ (by omega));refine (ot (zeM (j:=((i:Nat):Int)) (z1c:=((ts.length:Nat):Int)) (s1c:=(pv y')) (wa:=(wr x')) (s2c:=(.ptr q2 0 0))) ⟨trivial,rdA4.load rfl _ _,rfl,t4.ld 3 rfl,yT s4,?_⟩);refine ke (cnt (Ty.mk k2 nm2 ns2 ts2 r2')) _ (some q2) _ O4 N4 ⟨Nat.le_refl _,by omega⟩ okx (tx.same (fun j hj=>ex4.2 j (by omega)) (Nat.le_refl _)) (by omega) fun O5 N5 td5 ex5=>?_;have lx:=yf okx (by omega);have lx':=yf (hok x' hxm') (by omega);refine (ot (zbM (j:=((i:Nat):Int)) (z1c:=((ts.length:Nat):Int)) (s1c:=(pv y')) (wa:=(wr x')) (wb:=(wr (Ty.mk k2 nm2 ns2 ts2 r2'))) (s2c:=(.ptr q2 0 0))) ?_);refine ziq _ _ (by omega) (by omega) fun td6=>?_;have hr2:qL ((ts.map wr).drop (i - 1))=(Op.bytesLess (wr x') (wr (Ty.mk k2 nm2 ns2 ts2 r2'))&&qL ((ts.map wr).drop i)):=by
         have:=zmj (l:=ts.map wr) (i:=i - 1) (a:=wr x') (b:=wr (Ty.mk k2 nm2 ns2 ts2 r2')) (by rw [List.getElem?_map,hx']; rfl) (by rw [show i - 1+1=i by omega,List.getElem?_map,hx]; rfl);rw [show i - 1+1=i by omega] at this;exact this
        rw [hr2] at hv;rcases Bool.eq_false_or_eq_true (Op.bytesLess (wr x') (wr (Ty.mk k2 nm2 ns2 ts2 r2'))) with hlt | hlt
        ·rw [hlt,Bool.true_and] at hv;have nx:=ih (i+1) O5 N5 (by omega) ((ex3.trans ex4).trans ex5) (by rw [Nat.add_sub_cancel]; exact hv);rw [← zq (i:=i) (by omega)] at nx;exact (ot (qd (j:=((i:Nat):Int)) (z1c:=((ts.length:Nat):Int)) (s1c:=(pv y')) (wa:=(wr x')) (wb:=(wr (Ty.mk k2 nm2 ns2 ts2 r2'))) (br2:=(Op.bytesLess (wr x') (wr (Ty.mk k2 nm2 ns2 ts2 r2')))) (s2c:=(.ptr q2 0 0))) (fkf (by rw [hlt]; rfl) nx))
        ·rw [hlt,Bool.false_and,Bool.and_false,Bool.and_false] at hv;rw [hv] at hK;exact (ot (qd (j:=((i:Nat):Int)) (z1c:=((ts.length:Nat):Int)) (s1c:=(pv y')) (wa:=(wr x')) (wb:=(wr (Ty.mk k2 nm2 ns2 ts2 r2'))) (br2:=(Op.bytesLess (wr x') (wr (Ty.mk k2 nm2 ns2 ts2 r2')))) (s2c:=(.ptr q2 0 0))) (fkt (by rw [hlt]; rfl) (hK O5 N5 _ ((ex3.trans ex4).trans ex5))))
     exact loop ts.length 0 O2 N2 (Nat.zero_add _) ex (by rw [Bool.and_assoc]; rfl)
    have b9:(k==(9:Int))=false:=beq_eq_false_iff_ne.2 k9;rw [show okK k nm ns ts=true from by unfold okK; rw [if_neg k6,if_neg k7,if_neg k9]] at hK
    exact (ot (zgQ (k:=k) (nm:=[]) (sn:=.nilp) (sa:=sa) (rp:=.nilp) (j:=((i:Nat):Int))) ⟨((ts.length:Nat):Int),tO2.ld 3 rfl,by rw [← i5']; exact sO2.len pSl _ _,fkf (decide_eq_false (by omega)) ⟨tO2.ld 0 rfl,fkf b6 (fkf b7 (fkf b8 (fkf b9 (hK O2 N2 _ ex))))⟩⟩)
   have loop:∀ (k' i:Nat) (O2:T AObj) (N2:Nat),i+k'=ts.length→Ext O N O2 N2→ts.all okT=(ts.drop i).all okT→Goal P keep f0 Q (Wma id ((i:Nat):Int) rest O2 N2 G):=by
    intro k'
    induction k' with
    | zero =>
     intro i O2 N2 hk ex hv;exact kinds O2 N2 ex (by rw [hv,List.drop_of_length_le (by omega)]; rfl) i (by omega)
    | succ k' ih =>
     intro i O2 N2 hk ex hv;have exle:=ex.1;have tO2:=i2'.same (ex.2 id (by omega));have sO2:=i4'.keep (O':=O2) (fun j _ hj=>ex.2 j (by omega)) (Nat.le_refl 0) (Nat.le_refl hi);have nO2:=i3'.keep (O':=O2) (fun j _ hj=>ex.2 j (by omega)) (Nat.le_refl 0) (Nat.le_refl hi);obtain ⟨x,hx,hxm⟩:=nth (l:=ts) (j:=i) (by omega);obtain ⟨y,hy',_⟩:=nth (l:=ps) (j:=i) (by omega);have hcm:=xf hxm;obtain ⟨i1,i2,i3,lo1,hi1,eA,rd,_⟩:=sO2.at pSl pEn hy';rw [zr hx,List.all_cons] at hv;refine (ot (zgQ (k:=0) (nm:=[]) (sn:=.nilp) (sa:=sa) (rp:=.nilp) (j:=((i:Nat):Int))) ⟨((ts.length:Nat):Int),tO2.ld 3 rfl,by rw [← i5']; exact sO2.len pSl _ _,fkt (decide_eq_true (by omega)) ⟨_,_,_,(pv y),tO2.ld 3 rfl,eA,rd.load rfl _ _,?_⟩⟩);refine zkV m x (by omega) keep f0 Q hi y _ O2 N2 ((i8' i x y hx hy').same (fun j hj=>ex.2 j (by omega)) (Nat.le_refl _)) (by omega) fun O3 N3 td ex3=>?_;rcases Bool.eq_false_or_eq_true (okT x) with hb | hb
     ·rw [hb,Bool.true_and] at hv;have nx:=ih (i+1) O3 N3 (by omega) (ex.trans ex3) hv;rw [← zq (i:=i) (by omega)] at nx;exact (ot (ze0 (j:=((i:Nat):Int)) (s1c:=(pv y)) (br0:=(okT x))) (fkf (by rw [hb]; rfl) nx))
     ·rw [hb,Bool.false_and] at hv;rw [hv,Bool.false_and,Bool.false_and] at hK;exact (ot (ze0 (j:=((i:Nat):Int)) (s1c:=(pv y)) (br0:=(okT x))) (fkt (by rw [hb]; rfl) (hK O3 N3 _ (ex.trans ex3))))
   exact loop ts.length 0 O N (Nat.zero_add _) Ext.refl (by rw [List.drop_zero])
  have no_own:own k nm ns ts r=false∨k=6∧nm=[]→∀ {td:List AItem},Goal P keep f0 Q (AM.mk (RF 43 225 (tX tZ (tY (.bool false))) td) rest ⟨O,N,G⟩):=fun h td=>by
   have ew:(own k nm ns ts r&&ts.all okT&&(isNo r || okT r)&&okK k nm ns ts)=false:=by
    rcases h with h | h
    ·rw [h,Bool.false_and,Bool.false_and,Bool.false_and]
    ·rw [show okK k nm ns ts=false from by unfold okK; rw [if_pos h.1,h.2]; rfl,Bool.and_false]
   rw [ew] at hK;exact hK O N _ Ext.refl
  refine ot (t_may (k:=k) (nm:=nm) (sn:=sn) (sa:=sa) (rp:=pv q)) ⟨i2'.ld 0 rfl,fun hc2=>?_,fun hc2=>?_⟩
  ·
   refine no_own ?_;clear hK no_own hgo i2' i3' i4' i8' i9' ht;rw [zn];simp only [bne_iff_ne,ne_eq,bne_eq_false_iff_eq,decide_eq_true_eq,decide_eq_false_iff_not] at *
   repeat' split
   all_goals ((try simp_all) <;> (try omega))
  ·
   refine ⟨i2'.ld 0 rfl,fun hc3=>?_,fun hc3=>?_⟩
   ·
    refine no_own ?_;clear hK no_own hgo i2' i3' i4' i8' i9' ht;rw [zn];simp only [bne_iff_ne,ne_eq,bne_eq_false_iff_eq,decide_eq_true_eq,decide_eq_false_iff_not] at *
    repeat' split
    all_goals ((try simp_all) <;> (try omega))
   ·
    refine ⟨i2'.ld 1 rfl,i2'.ld 0 rfl,fun hc4=>?_,fun hc4=>?_⟩
    ·
     refine no_own ?_;clear hK no_own hgo i2' i3' i4' i8' i9' ht;rw [zn];simp only [bne_iff_ne,ne_eq,bne_eq_false_iff_eq,decide_eq_true_eq,decide_eq_false_iff_not] at *
     repeat' split
     all_goals ((try simp_all) <;> (try omega))
    ·
     refine ⟨((ns.length:Nat):Int),i2'.ld 2 rfl,(i3'.len sSl _ _),fun hc5=>?_,fun hc5=>?_⟩
     ·
      refine ⟨i2'.ld 0 rfl,fun hc6=>?_,fun hc6=>?_⟩
      ·
       refine no_own ?_;clear hK no_own hgo i2' i3' i4' i8' i9' ht;rw [zn];simp only [bne_iff_ne,ne_eq,bne_eq_false_iff_eq,decide_eq_true_eq,decide_eq_false_iff_not] at *
       repeat' split
       all_goals ((try simp_all) <;> (try omega))
      ·
       refine ⟨((ts.length:Nat):Int),i2'.ld 3 rfl,(by rw [← i5']; exact i4'.len pSl _ _),fun hc7=>?_,fun hc7=>?_⟩
       ·
        refine ⟨i2'.ld 0 rfl,fun hc8=>?_,fun hc8=>?_⟩
        ·
         refine no_own ?_;clear hK no_own hgo i2' i3' i4' i8' i9' ht;rw [zn];simp only [bne_iff_ne,ne_eq,bne_eq_false_iff_eq,decide_eq_true_eq,decide_eq_false_iff_not] at *
         repeat' split
         all_goals ((try simp_all) <;> (try omega))
        ·
         refine ⟨(!isNo r),i2'.ld 4 rfl,(kj i9' _),i2'.ld 0 rfl,fun hc9=>?_,fun hc9=>?_⟩
         ·
          refine no_own ?_;clear hK no_own hgo i2' i3' i4' i8' i9' ht;rw [zn];simp only [bne_iff_ne,ne_eq,bne_eq_false_iff_eq,decide_eq_true_eq,decide_eq_false_iff_not] at *
          repeat' split
          all_goals ((try simp_all) <;> (try omega))
         ·
          refine hgo ?_;clear hK no_own hgo i2' i3' i4' i8' i9' ht;rw [zn];simp only [bne_iff_ne,ne_eq,bne_eq_false_iff_eq,decide_eq_true_eq,decide_eq_false_iff_not] at *
          repeat' split
          all_goals ((try simp_all) <;> (try omega))
       ·
        refine ⟨(!isNo r),i2'.ld 4 rfl,(kj i9' _),i2'.ld 0 rfl,fun hc10=>?_,fun hc10=>?_⟩
        ·
         refine no_own ?_;clear hK no_own hgo i2' i3' i4' i8' i9' ht;rw [zn];simp only [bne_iff_ne,ne_eq,bne_eq_false_iff_eq,decide_eq_true_eq,decide_eq_false_iff_not] at *
         repeat' split
         all_goals ((try simp_all) <;> (try omega))
        ·
         refine hgo ?_;clear hK no_own hgo i2' i3' i4' i8' i9' ht;rw [zn];simp only [bne_iff_ne,ne_eq,bne_eq_false_iff_eq,decide_eq_true_eq,decide_eq_false_iff_not] at *
         repeat' split
         all_goals ((try simp_all) <;> (try omega))
     ·
      refine ⟨((ts.length:Nat):Int),i2'.ld 3 rfl,(by rw [← i5']; exact i4'.len pSl _ _),fun hc11=>?_,fun hc11=>?_⟩
      ·
       refine ⟨i2'.ld 0 rfl,fun hc12=>?_,fun hc12=>?_⟩
       ·
        refine no_own ?_;clear hK no_own hgo i2' i3' i4' i8' i9' ht;rw [zn];simp only [bne_iff_ne,ne_eq,bne_eq_false_iff_eq,decide_eq_true_eq,decide_eq_false_iff_not] at *
        repeat' split
        all_goals ((try simp_all) <;> (try omega))
       ·
        refine ⟨(!isNo r),i2'.ld 4 rfl,(kj i9' _),i2'.ld 0 rfl,fun hc13=>?_,fun hc13=>?_⟩
        ·
         refine no_own ?_;clear hK no_own hgo i2' i3' i4' i8' i9' ht;rw [zn];simp only [bne_iff_ne,ne_eq,bne_eq_false_iff_eq,decide_eq_true_eq,decide_eq_false_iff_not] at *
         repeat' split
         all_goals ((try simp_all) <;> (try omega))
        ·
         refine hgo ?_;clear hK no_own hgo i2' i3' i4' i8' i9' ht;rw [zn];simp only [bne_iff_ne,ne_eq,bne_eq_false_iff_eq,decide_eq_true_eq,decide_eq_false_iff_not] at *
         repeat' split
         all_goals ((try simp_all) <;> (try omega))
      ·
       refine ⟨(!isNo r),i2'.ld 4 rfl,(kj i9' _),i2'.ld 0 rfl,fun hc14=>?_,fun hc14=>?_⟩
       ·
        refine no_own ?_;clear hK no_own hgo i2' i3' i4' i8' i9' ht;rw [zn];simp only [bne_iff_ne,ne_eq,bne_eq_false_iff_eq,decide_eq_true_eq,decide_eq_false_iff_not] at *
        repeat' split
        all_goals ((try simp_all) <;> (try omega))
       ·
        refine hgo ?_;clear hK no_own hgo i2' i3' i4' i8' i9' ht;rw [zn];simp only [bne_iff_ne,ne_eq,bne_eq_false_iff_eq,decide_eq_true_eq,decide_eq_false_iff_not] at *
        repeat' split
        all_goals ((try simp_all) <;> (try omega))
end Go.Proofs.Ytcdigdplhlgcaaa.gx
end
section
set_option maxRecDepth 100000
set_option linter.unusedVariables false
set_option linter.unusedSectionVars false
set_option linter.unusedSimpArgs false
namespace Go.Proofs.Ytcdigdplhlgcaaa.gx
open Go Ev tp
section
variable (p:Nat)
noncomputable def Fchp:AFrame:=frm 12 14 (tW (tX (tX (tY (.ptr p 0 0)) tZ) tZ) (.ptr p 0 0) tZ) [opi 12 [1,0,0,1,1,0] 1,cdi 12 [1,0,0,1,1,1],.inBlock 0,cdi 12 [1,1]]
noncomputable def zhF:AFrame:=frm 12 14 (tX (tX (tX tZ (tY (.ptr p 0 0))) tZ) tZ) [opi 12 [1,0,0,1,1,1,1,0] 1,cdi 12 [1,0,0,1,1,1,1,1],.inBlock 0,cdi 12 [1,1]]
noncomputable def Frcp:AFrame:=frm 13 11 (tW (tX tZ (tY (.ptr p 0 0))) (.ptr p 0 0) tZ) [opi 13 [1,1,0,0] 1,cdi 13 [1,1,0,1],cdi 13 [1,1,1]]
noncomputable def zh8:AFrame:=frm 13 11 (tX tZ (tX (tX (tY (.ptr p 0 0)) tZ) tZ)) [opi 13 [1,1,1,0,0] 1,cdi 13 [1,1,1,0,1],cdi 13 [1,1,1,1]]
end
section
variable {R:AV→AHeap→Prop} {keep N p:Nat} {f0:FuncId} {rest:List AFrame} {O:T AObj} {G:T (T AV)} {K:AM→Prop} {td:List AItem} {c:Int} {br1:Bool}
theorem t_chn:(K (AM.mk (RF 12 14 (tX tZ (tY (.int .i64 1))) [cdi 12 [1,0,0,1,0,1],.inBlock 0,cdi 12 [1,1]]) rest ⟨O,N,G⟩))=OT f0 R keep K (.seq [.run 18,.keep [2]] .fin) ((AM.mk (enF 12 [.nilp]) rest ⟨O,N,G⟩)):=by kernel_rfl
theorem t_chp:(K (AM.mk (enF 14 [.ptr p 0 0]) ((Fchp p)::rest) ⟨O,N,G⟩))=OT f0 R keep K (.seq [.run 16,.keep [0,7],.run 1] .fin) ((AM.mk (enF 12 [.ptr p 0 0]) rest ⟨O,N,G⟩)):=by kernel_rfl
theorem zhv:(((decide (c > (60:Int)))=true→(K (AM.mk (RF 12 14 (tX tZ (tY (.int .i64 3))) [cdi 14 [1,1,1,1],.inBlock 0,cdi 12 [1,1]]) rest ⟨O,N,G⟩)))∧((decide (c > (60:Int)))=false→(K (AM.mk (enF 42 [.ptr p 0 0]) ((zhF p)::rest) ⟨O,N,G⟩))))=OT f0 R keep K (.seq [.run 4] (.fork 6 (.seq [.run 6,.keep [2]] .fin) (.seq [.run 4,.keep [11],.run 1] .fin))) ((AM.mk (RF 14 12 (tX tZ (tY (.int .i64 c))) td) ((Fchp p)::rest) ⟨O,N,G⟩)):=by kernel_rfl
theorem zak:((((!br1))=true→(K (AM.mk (RF 12 14 (tX tZ (tY (.int .i64 2))) [cdi 42 [1,1,0,1,0,1],.inBlock 0,cdi 12 [1,1]]) rest ⟨O,N,G⟩)))∧(((!br1))=false→(K (AM.mk (RF 12 14 (tX tZ (tY (.int .i64 0))) [cdi 42 [1,1,0,1,0,1]]) rest ⟨O,N,G⟩))))=OT f0 R keep K (.seq [.run 4] (.fork 10 (.seq [.run 6,.keep [2]] .fin) (.seq [.run 8,.keep [2]] .fin))) ((AM.mk (RF 42 95 (tX tZ (tY (.bool br1))) td) ((zhF p)::rest) ⟨O,N,G⟩)):=by kernel_rfl
theorem t_rcn:(K (AM.mk (RF 13 11 (tX tZ (tY (.int .i64 1))) [cdi 13 [1,0,1,0,1],cdi 13 [1,1]]) rest ⟨O,N,G⟩))=OT f0 R keep K (.seq [.run 16,.keep [2]] .fin) ((AM.mk (enF 13 [.nilp]) rest ⟨O,N,G⟩)):=by kernel_rfl
theorem t_rcp:(K (AM.mk (enF 15 [.ptr p 0 0]) ((Frcp p)::rest) ⟨O,N,G⟩))=OT f0 R keep K (.seq [.run 16,.keep [0,5],.run 1] .fin) ((AM.mk (enF 13 [.ptr p 0 0]) rest ⟨O,N,G⟩)):=by kernel_rfl
theorem zhX:(((decide (c > (60:Int)))=true→(K (AM.mk (RF 13 11 (tX tZ (tY (.int .i64 3))) [cdi 15 [1,1],cdi 13 [1,1,1]]) rest ⟨O,N,G⟩)))∧((decide (c > (60:Int)))=false→(K (AM.mk (enF 43 [.ptr p 0 0]) ((zh8 p)::rest) ⟨O,N,G⟩))))=OT f0 R keep K (.seq [.run 3] (.fork 7 (.seq [.run 6,.keep [2]] .fin) (.seq [.run 6,.keep [8],.run 1] .fin))) ((AM.mk (RF 15 5 (tX tZ (tY (.int .i64 c))) td) ((Frcp p)::rest) ⟨O,N,G⟩)):=by kernel_rfl
theorem zao:((((!br1))=true→(K (AM.mk (RF 13 11 (tX tZ (tY (.int .i64 2))) [cdi 43 [1,0,1,0,1],cdi 13 [1,1,1,1]]) rest ⟨O,N,G⟩)))∧(((!br1))=false→(K (AM.mk (RF 13 11 (tX tZ (tY (.int .i64 0))) [cdi 43 [1,0,1,0,1]]) rest ⟨O,N,G⟩))))=OT f0 R keep K (.seq [.run 3] (.fork 10 (.seq [.run 6,.keep [2]] .fin) (.seq [.run 7,.keep [2]] .fin))) ((AM.mk (RF 43 225 (tX tZ (tY (.bool br1))) td) ((zh8 p)::rest) ⟨O,N,G⟩)):=by kernel_rfl
end
variable {O O':T AObj} {N:Nat} {G:T (T AV)}
theorem chk_ok {t:Ty}{p:Option Nat}{hi:Nat}(ht:Tr O hi t p)(hN:hi≤N){keep:Nat}{f0:FuncId}{Q:AV→AHeap→Prop}{rest:List AFrame}
 (hK:∀ O' N' td,Ext O N O' N'→Goal P keep f0 Q (AM.mk (RF 12 14 (tX tZ (tY (.int .i64 (chk t)))) td) rest ⟨O',N',G⟩)):Goal P keep f0 Q (AM.mk (enF 12 [pv p]) rest ⟨O,N,G⟩):=by
 rcases Bool.eq_false_or_eq_true (isNo t) with hno | hno
 ·have hp:=(ht.isNo.1).2 hno;subst hp;rw [show chk t=1 from by unfold chk; rw [if_pos hno]] at hK
  exact (ot t_chn (hK O N _ Ext.refl))
 ·obtain ⟨id,rfl⟩:∃ id,p=some id:=by
   cases p with
   | none=>have:=(ht.isNo.1).1 rfl; rw [hno] at this; cases this
   | some id=>exact ⟨id,rfl⟩
  refine (ot t_chp ?_);refine zlD ht hN fun O1 N1 td ex1=>?_
  by_cases hc:60<cnt t
  ·rw [show chk t=3 from by unfold chk; rw [if_neg (by rw [hno]; simp),if_pos hc]] at hK
   exact (ot (zhv (c:=((min (cnt t) 61:Nat):Int))) (fkt (decide_eq_true (by omega)) (hK O1 N1 _ ex1)))
  ·refine (ot (zhv (c:=((min (cnt t) 61:Nat):Int))) (fkf (decide_eq_false (by omega)) ?_));refine zci (cnt t) t ⟨Nat.le_refl _,by omega⟩ hno keep f0 Q hi _ _ O1 N1 (ht.same (fun j hj=>ex1.2 j (by omega)) (Nat.le_refl _)) (Nat.le_trans hN ex1.1) fun O2 N2 td2 ex2=>?_;rcases Bool.eq_false_or_eq_true (okT t) with hok | hok
   ·rw [show chk t=0 from by unfold chk; rw [if_neg (by rw [hno]; simp),if_neg hc,if_pos hok]] at hK
    exact (ot (zak (br1:=(okT t))) (fkf (by rw [hok]; rfl) (hK O2 N2 _ (ex1.trans ex2))))
   ·rw [show chk t=2 from by unfold chk; rw [if_neg (by rw [hno]; simp),if_neg hc,if_neg (by rw [hok]; simp)]] at hK
    exact (ot (zak (br1:=(okT t))) (fkt (by rw [hok]; rfl) (hK O2 N2 _ (ex1.trans ex2))))
theorem zk9 {t:Ty}{p:Option Nat}{hi:Nat}(ht:Tr O hi t p)(hN:hi≤N){keep:Nat}{f0:FuncId}{Q:AV→AHeap→Prop}{rest:List AFrame}
 (hK:∀ O' N' td,Ext O N O' N'→Goal P keep f0 Q (AM.mk (RF 13 11 (tX tZ (tY (.int .i64 (chk t)))) td) rest ⟨O',N',G⟩)):Goal P keep f0 Q (AM.mk (enF 13 [pv p]) rest ⟨O,N,G⟩):=by
 rcases Bool.eq_false_or_eq_true (isNo t) with hno | hno
 ·have hp:=(ht.isNo.1).2 hno;subst hp;rw [show chk t=1 from by unfold chk; rw [if_pos hno]] at hK
  exact (ot t_rcn (hK O N _ Ext.refl))
 ·obtain ⟨id,rfl⟩:∃ id,p=some id:=by
   cases p with
   | none=>have:=(ht.isNo.1).1 rfl; rw [hno] at this; cases this
   | some id=>exact ⟨id,rfl⟩
  refine (ot t_rcp ?_);refine zaP ht fun td=>?_;have ex1:Ext O N O N:=Ext.refl
  by_cases hc:60<cnt t
  ·rw [show chk t=3 from by unfold chk; rw [if_neg (by rw [hno]; simp),if_pos hc]] at hK
   exact (ot (zhX (c:=((min (cnt t) 61:Nat):Int))) (fkt (decide_eq_true (by omega)) (hK O N _ ex1)))
  ·refine (ot (zhX (c:=((min (cnt t) 61:Nat):Int))) (fkf (decide_eq_false (by omega)) ?_));refine zkV (cnt t) t ⟨Nat.le_refl _,by omega⟩ keep f0 Q hi _ _ O N ht hN fun O2 N2 td2 ex2=>?_;rcases Bool.eq_false_or_eq_true (okT t) with hok | hok
   ·rw [show chk t=0 from by unfold chk; rw [if_neg (by rw [hno]; simp),if_neg hc,if_pos hok]] at hK
    exact (ot (zao (br1:=(okT t))) (fkf (by rw [hok]; rfl) (hK O2 N2 _ (ex1.trans ex2))))
   ·rw [show chk t=2 from by unfold chk; rw [if_neg (by rw [hno]; simp),if_neg hc,if_neg (by rw [hok]; simp)]] at hK
    exact (ot (zao (br1:=(okT t))) (fkt (by rw [hok]; rfl) (hK O2 N2 _ (ex1.trans ex2))))
end Go.Proofs.Ytcdigdplhlgcaaa.gx
end
section
set_option maxRecDepth 100000
set_option linter.unusedVariables false
set_option linter.unusedSectionVars false
set_option linter.unusedSimpArgs false
namespace Go.Proofs.Ytcdigdplhlgcaaa.gx
open Go Ev tp
section
variable (sa sa2:AV) (n j:Int) (q i1 i2 i3 ca cc_ cb xb:Nat) (fs:AV) (rest:List AFrame) (O:T AObj) (N:Nat) (G:T (T AV)) (p lk:Nat) (xx:AV)
end
section
variable {R:AV→AHeap→Prop} {keep N p q lk ca cc_ cb xb i1c i2c i3c:Nat} {f0:FuncId} {rest:List AFrame} {O:T AObj} {sa sa2 fs xx:AV} {G:T (T AV)} {K:AM→Prop} {n j:Int} {td:List AItem} {bl:Bool}
end
variable {O O':T AObj} {N:Nat} {G:T (T AV)}
def InvL (O0:T AObj) (N0 lk:Nat) (O:T AObj) (N v:Nat):Prop:=N0≤N∧(∀ j,j<N0→j≠lk→O.get j=O0.get j)∧Obj O lk [.int .u64 (IntKind.u64.wrap ((v:Nat):Int))]
theorem InvL.trans {O0 O1 O2:T AObj}{N0 N1 N2 lk v w:Nat}(a:InvL O0 N0 lk O1 N1 v)(b:InvL O1 N1 lk O2 N2 w):InvL O0 N0 lk O2 N2 w:=⟨Nat.le_trans a.1 b.1,fun j h1 h2=>(b.2.1 j (Nat.lt_of_lt_of_le h1 a.1) h2).trans (a.2.1 j h1 h2),b.2.2⟩
end Go.Proofs.Ytcdigdplhlgcaaa.gx
end
section
set_option maxRecDepth 100000
set_option linter.unusedVariables false
set_option linter.unusedSectionVars false
set_option linter.unusedSimpArgs false
namespace Go.Proofs.Ytcdigdplhlgcaaa.gx
open Go Ev tp
section
variable (sa:AV) (j:Int) (rest:List AFrame) (O:T AObj) (N:Nat) (G:T (T AV)) (i1 i2 i3:Nat) (s1:AV) (z1:Int)
noncomputable def Ffit:AFrame:=frm 65 8 (tW (tX (tY (.int .i64 0)) tZ) s1 (tW (tY s1) .nilp tZ)) [opi 65 [1,0,0] 1,cdi 65 [1,0,1],cdi 65 [1,1]]
noncomputable def zrS:AM:=⟨frm 62 16 (tW (tX (tY (.int .i64 j)) tZ) sa tZ) [cdi 62 [1,0,1,0,0],ili 62 [1,0,1,0,0],.inBlock 0,cdi 62 [1,1]],rest,⟨O,N,G⟩⟩
noncomputable def zln:AFrame:=frm 62 16 (tW (tX (tW (tY (.bool true)) (.int .i64 j) (tY (.int .i64 j))) (tW tZ sa (tY s1))) sa (tX (tW tZ (.int .i64 j) (tY (.ptr i1 i2 i3))) (tW (tY sa) (.int .i64 z1) tZ))) [opi 62 [1,0,1,0,0,1,0,0,0] 4,cdi 62 [1,0,1,0,0,1,0,0,1],.inBlock 1,cdi 62 [1,0,1,0,0,1,1],ili 62 [1,0,1,0,0],.inBlock 0,cdi 62 [1,1]]
end
theorem q_ral (R:AV→AHeap→Prop)(keep:Nat)(f0:FuncId)(rest:List AFrame)(N:Nat)(O:T AObj)(sa:AV)(G:T (T AV))(K:AM→Prop):Obl P f0 (fun v h=>R v h) keep K [.run 11,.keep [0,3]] ((AM.mk (enF 62 [sa]) rest ⟨O,N,G⟩))=(K (zrS sa 0 rest O N G)):=by kernel_rfl
theorem q_fit (R:AV→AHeap→Prop)(keep:Nat)(f0:FuncId)(rest:List AFrame)(N:Nat)(O:T AObj)(s1:AV)(G:T (T AV))(K:AM→Prop):Obl P f0 (fun v h=>R v h) keep K [.run 10] ((AM.mk (enF 65 [s1]) rest ⟨O,N,G⟩))=(K (AM.mk (enF 15 [s1]) ((Ffit s1)::rest) ⟨O,N,G⟩)):=by kernel_rfl
theorem zmr (R:AV→AHeap→Prop)(keep:Nat)(f0:FuncId)(rest:List AFrame)(td:List AItem)(N:Nat)(O:T AObj)(c:Int)(s1c:AV)(G:T (T AV))(K:AM→Prop):Obl P f0 (fun v h=>R v h) keep K [.run 3,.know 6 true,.run 7,.keep [2,3]] ((AM.mk (RF 15 5 (tX tZ (tY (.int .i64 c))) td) ((Ffit s1c)::rest) ⟨O,N,G⟩))=((decide (c > (60:Int))=true)∧K (AM.mk (RF 65 8 (tX (tX (tY (.int .i64 3)) tZ) (tY .nilp)) [cdi 15 [1,1],cdi 65 [1,1]]) rest ⟨O,N,G⟩)):=by kernel_rfl
theorem zlu (R:AV→AHeap→Prop)(keep:Nat)(f0:FuncId)(rest:List AFrame)(td:List AItem)(N:Nat)(O:T AObj)(c:Int)(s1c:AV)(G:T (T AV))(K:AM→Prop):Obl P f0 (fun v h=>R v h) keep K [.run 3,.know 6 false,.run 9,.keep [2,3]] ((AM.mk (RF 15 5 (tX tZ (tY (.int .i64 c))) td) ((Ffit s1c)::rest) ⟨O,N,G⟩))=((decide (c > (60:Int))=false)∧K (AM.mk (RF 65 8 (tX (tX (tY (.int .i64 0)) tZ) (tY s1c)) [cdi 15 [1,1]]) rest ⟨O,N,G⟩)):=by kernel_rfl
theorem zqN (R:AV→AHeap→Prop)(keep:Nat)(f0:FuncId)(rest:List AFrame)(N:Nat)(O:T AObj)(sa:AV)(j:Int)(i1:Nat)(i2:Nat)(i3:Nat)(s1:AV)(z1:Int)(G:T (T AV))(K:AM→Prop):Obl P f0 (fun v h=>R v h) keep K [.run 5,.hopn (.int .i64 z1) O (N),.run 2,.know 7 true,.run 8,.hopn (.ptr i1 i2 i3) O (N),.hop (s1) O,.run 1] ((zrS sa j rest O N G))=((zL P (⟨O,N,G⟩) (Builtin.len) ((some 33)) ([sa])=(some (.int .i64 z1)))∧(decide (j<z1)=true)∧(zf P 33 (sa) (.int .i64 j)=(some (.ptr i1 i2 i3)))∧(zb (⟨O,N,G⟩) (i1) (i2) (i3) 1=(some [s1]))∧K (AM.mk (enF 13 [s1]) ((zln sa j i1 i2 i3 s1 z1)::rest) ⟨O,N,G⟩)):=by kernel_rfl
theorem zqp (R:AV→AHeap→Prop)(keep:Nat)(f0:FuncId)(rest:List AFrame)(N:Nat)(O:T AObj)(sa:AV)(j:Int)(z1:Int)(G:T (T AV))(K:AM→Prop):Obl P f0 (fun v h=>R v h) keep K [.run 5,.hopn (.int .i64 z1) O (N),.run 2,.know 7 false,.run 7,.keep [2]] ((zrS sa j rest O N G))=((zL P (⟨O,N,G⟩) (Builtin.len) ((some 33)) ([sa])=(some (.int .i64 z1)))∧(decide (j<z1)=false)∧K (AM.mk (RF 62 16 (tX tZ (tY (.bool true))) [cdi 62 [1,0,1,0,0,1,0,0,1,0,1]]) rest ⟨O,N,G⟩)):=by kernel_rfl
theorem zgt (R:AV→AHeap→Prop)(keep:Nat)(f0:FuncId)(rest:List AFrame)(td:List AItem)(N:Nat)(O:T AObj)(sa:AV)(c:Int)(j:Int)(i1c:Nat)(i2c:Nat)(i3c:Nat)(z1c:Int)(s1c:AV)(G:T (T AV))(K:AM→Prop):Obl P f0 (fun v h=>R v h) keep K [.run 3,.know 15 true,.run 6,.keep [2]] ((AM.mk (RF 13 11 (tX tZ (tY (.int .i64 c))) td) ((zln sa j i1c i2c i3c s1c z1c)::rest) ⟨O,N,G⟩))=(((c != (0:Int))=true)∧K (AM.mk (RF 62 16 (tX tZ (tY (.bool false))) [cdi 13 [1,0,1,0,1],.inBlock 1,cdi 62 [1,0,1,0,0,1,1],ili 62 [1,0,1,0,0],.inBlock 0,cdi 62 [1,1]]) rest ⟨O,N,G⟩)):=by kernel_rfl
theorem zhc (R:AV→AHeap→Prop)(keep:Nat)(f0:FuncId)(rest:List AFrame)(td:List AItem)(N:Nat)(O:T AObj)(sa:AV)(c:Int)(j:Int)(i1c:Nat)(i2c:Nat)(i3c:Nat)(z1c:Int)(s1c:AV)(G:T (T AV))(K:AM→Prop):Obl P f0 (fun v h=>R v h) keep K [.run 3,.know 15 false,.run 9,.keep [0,3]] ((AM.mk (RF 13 11 (tX tZ (tY (.int .i64 c))) td) ((zln sa j i1c i2c i3c s1c z1c)::rest) ⟨O,N,G⟩))=(((c != (0:Int))=false)∧K (zrS sa (IntKind.i64.wrap (j+(1:Int))) rest O N G)):=by kernel_rfl
variable {O O':T AObj} {N:Nat} {G:T (T AV)}
theorem zhj {ts:List Ty}{ps:List (Option Nat)}{sa:AV}{hi:Nat}(hs:SV O 1 pE 0 hi ps sa)(hl:ps.length=ts.length)(hm:ts.length<1000000)(ht:∀ (j:Nat) (x:Ty) (p:Option Nat),ts[j]?=some x→ps[j]?=some p→Tr O hi x p)(hN:hi≤N){keep:Nat}{f0:FuncId}{Q:AV→AHeap→Prop}{rest:List AFrame}
 (hK:∀ O' N' td,Ext O N O' N'→Goal P keep f0 Q (AM.mk (RF 62 16 (tX tZ (tY (.bool (ts.all (fun x=>chk x==0))))) td) rest ⟨O',N',G⟩)):Goal P keep f0 Q (AM.mk (enF 62 [sa]) rest ⟨O,N,G⟩):=by
 have loop:∀ (k' i:Nat) (O2:T AObj) (N2:Nat),i+k'=ts.length→Ext O N O2 N2→ts.all (fun x=>chk x==0)=(ts.drop i).all (fun x=>chk x==0)→Goal P keep f0 Q (zrS sa ((i:Nat):Int) rest O2 N2 G):=by
  intro k'
  induction k' with
  | zero =>
   intro i O2 N2 hk ex hv;rw [hv,List.drop_of_length_le (by omega)] at hK;have sO2:=hs.keep (O':=O2) (fun j _ hj=>ex.2 j (by omega)) (Nat.le_refl 0) (Nat.le_refl hi);exact (Obl.goal mix (K:=Goal P keep f0 Q) (fun _ h=>h) (cast (zqp Q keep f0 rest N2 O2 sa ((i:Nat):Int) ((ts.length:Nat):Int) G (Goal P keep f0 Q)).symm ⟨(by rw [← hl]; exact sO2.len pSl _ _),decide_eq_false (by omega),hK O2 N2 _ ex⟩))
  | succ k' ih =>
   intro i O2 N2 hk ex hv;have exle:=ex.1;have sO2:=hs.keep (O':=O2) (fun j _ hj=>ex.2 j (by omega)) (Nat.le_refl 0) (Nat.le_refl hi);obtain ⟨x,hx,hxm⟩:=nth (l:=ts) (j:=i) (by omega);obtain ⟨y,hy',_⟩:=nth (l:=ps) (j:=i) (by omega);obtain ⟨i1,i2,i3,lo1,hi1,eA,rd,_⟩:=sO2.at pSl pEn hy';rw [zr hx,List.all_cons] at hv;have tx:=(ht i x y hx hy').same (O':=O2) (fun j hj=>ex.2 j (by omega)) (Nat.le_refl _);refine (Obl.goal mix (K:=Goal P keep f0 Q) (fun _ h=>h) (cast (zqN Q keep f0 rest N2 O2 sa ((i:Nat):Int) i1 i2 i3 (pv y) ((ts.length:Nat):Int) G (Goal P keep f0 Q)).symm ⟨(by rw [← hl]; exact sO2.len pSl _ _),decide_eq_true (by omega),eA,rd.load rfl _ _,?_⟩));refine zk9 tx (by omega) fun O3 N3 td ex3=>?_;rcases Bool.eq_false_or_eq_true (chk x != (0:Int)) with hb | hb
   ·rw [show (chk x==0)=false by simpa using hb,Bool.false_and] at hv
    rw [hv] at hK;exact (Obl.goal mix (K:=Goal P keep f0 Q) (fun _ h=>h) (cast (zgt Q keep f0 rest td N3 O3 sa (chk x) ((i:Nat):Int) i1 i2 i3 ((ts.length:Nat):Int) (pv y) G (Goal P keep f0 Q)).symm ⟨hb,hK O3 N3 _ (ex.trans ex3)⟩))
   ·rw [show (chk x==0)=true by simpa using hb,Bool.true_and] at hv
    have nx:=ih (i+1) O3 N3 (by omega) (ex.trans ex3) hv;rw [← zq (i:=i) (by omega)] at nx;exact (Obl.goal mix (K:=Goal P keep f0 Q) (fun _ h=>h) (cast (zhc Q keep f0 rest td N3 O3 sa (chk x) ((i:Nat):Int) i1 i2 i3 ((ts.length:Nat):Int) (pv y) G (Goal P keep f0 Q)).symm ⟨hb,nx⟩))
 refine (Obl.goal mix (K:=Goal P keep f0 Q) (fun _ h=>h) (cast (q_ral Q keep f0 rest N O sa G (Goal P keep f0 Q)).symm ?_));exact loop ts.length 0 O N (Nat.zero_add _) Ext.refl (by rw [List.drop_zero])
theorem ziz {t:Ty}{p:Option Nat}{hi:Nat}(ht:Tr O hi t p){keep:Nat}{f0:FuncId}{Q:AV→AHeap→Prop}{rest:List AFrame}
 (hA:60<cnt t→∀ td,Goal P keep f0 Q (AM.mk (RF 65 8 (tX (tX (tY (.int .i64 3)) tZ) (tY .nilp)) td) rest ⟨O,N,G⟩)) (hB:cnt t≤60→∀ td,Goal P keep f0 Q (AM.mk (RF 65 8 (tX (tX (tY (.int .i64 0)) tZ) (tY (pv p))) td) rest ⟨O,N,G⟩)):Goal P keep f0 Q (AM.mk (enF 65 [pv p]) rest ⟨O,N,G⟩):=by
 refine (Obl.goal mix (K:=Goal P keep f0 Q) (fun _ h=>h) (cast (q_fit Q keep f0 rest N O (pv p) G (Goal P keep f0 Q)).symm ?_));refine zaP ht fun td=>?_
 by_cases h:60<cnt t
 ·exact (Obl.goal mix (K:=Goal P keep f0 Q) (fun _ h=>h) (cast (zmr Q keep f0 rest td N O ((min (cnt t) 61:Nat):Int) (pv p) G (Goal P keep f0 Q)).symm ⟨decide_eq_true (by omega),hA h _⟩))
 ·exact (Obl.goal mix (K:=Goal P keep f0 Q) (fun _ h=>h) (cast (zlu Q keep f0 rest td N O ((min (cnt t) 61:Nat):Int) (pv p) G (Goal P keep f0 Q)).symm ⟨decide_eq_false (by omega),hB (by omega) _⟩))
def SVe (O:T AObj) (hi:Nat) (xs:List UInt8) (s:AV):Prop:=SV O 1 bE 0 hi xs s∨(s=.sle∧xs=[])
theorem SVe.keep {hi:Nat}{xs:List UInt8}{s:AV}(h:SVe O hi xs s)(e:∀ j,j<hi→O'.get j=O.get j):SVe O' hi xs s :=
 h.imp (fun h=>h.keep (fun j _ hj=>e j hj) (Nat.le_refl _) (Nat.le_refl _)) id
theorem SVe.one {hi:Nat}{xs:List UInt8}{s:AV}(h:SVe O hi xs s):AV.one s=true:=h.elim (fun h=>h.one) fun h=>by rw [h.1]; rfl
theorem SVe.len {hi:Nat}{xs:List UInt8}{s:AV}(h:SVe O hi xs s)(N:Nat)(G:T (T AV)):zL P ⟨O,N,G⟩ .len (some 22) [s]=some (.int .i64 ((xs.length:Nat):Int)):=by
 rcases h with h | ⟨rfl,rfl⟩
 ·exact h.len bSl N G
 ·kernel_rfl
def MKo (O:T AObj) (hi mk:Nat) (xs:List UInt8) (nn:Int) (an:Bool):Prop:=∃ sl,Obj O mk [sl,.int .i64 nn,.bool an]∧SVe O hi xs sl
end Go.Proofs.Ytcdigdplhlgcaaa.gx
end
section
set_option maxRecDepth 100000
set_option linter.unusedVariables false
set_option linter.unusedSectionVars false
namespace Go.Proofs.Ytcdigdplhlgcaaa.gx
open Go Ev tp
variable {O O':T AObj} {N hi hi' mk:Nat} {G:T (T AV)} {t:Ty} {p:Option Nat}
inductive Tra (O:T AObj) (hi:Nat) (A:Nat→Prop):Ty→Option Nat→Prop
 | nil:Tra O hi A .no none
 | node {k:Int} {nm:ze} {ns:List ze} {aa:List Ty} {r:Ty} {id:Nat} {sn sa:AV} {ps:List (Option Nat)} {q:Option Nat} (hid:id<hi) (hm:¬ A id) (h2:Obj O id [.int .i64 k,.str nm,sn,sa,pv q])
  (h3:SV O 1 sE 0 hi ns sn) (m3:sn≠.nils 0 0→¬ A (sid sn)) (h4:SV O 1 pE 0 hi ps sa) (m4:sa≠.nils 0 0→¬ A (sid sa)) (h5:ps.length=aa.length) (h6:aa.length<1000000) (h7:ns.length<1000000)
  (h8:∀ (j:Nat) (x:Ty) (p:Option Nat),aa[j]?=some x→ps[j]?=some p→Tra O hi A x p) (h9:Tra O hi A r q):Tra O hi A (.mk k nm ns aa r) (some id)
variable {A B:Nat→Prop}
theorem Tra.tr (h:Tra O hi A t p):Tr O hi t p:=by
 induction h with
 | nil=>exact .no
 | node h1 hm h2 h3 m3 h4 m4 h5 h6 h7 h8 h9 ih1 ih2=>exact .mk h1 h2 h3 h4 h5 h6 h7 ih1 ih2
theorem Tra.same (h:Tra O hi A t p)(e:∀ j,j<hi→¬ A j→O'.get j=O.get j)(hh:hi≤hi'):Tra O' hi' A t p:=by
 induction h with
 | nil=>exact .nil
 | node h1 hm h2 h3 m3 h4 m4 h5 h6 h7 h8 h9 ih1 ih2 =>
  exact .node (by omega) hm (h2.same (e _ h1 hm)) (h3.same (fun hn=>e _ (h3.sid_lt hn).2 (m3 hn)) (Nat.le_refl _) hh) m3 (h4.same (fun hn=>e _ (h4.sid_lt hn).2 (m4 hn)) (Nat.le_refl _) hh) m4 h5 h6 h7 ih1 ih2
theorem Tra.of (h:Tr O hi t p)(hm:∀ j,j<hi→¬ A j):Tra O hi A t p:=by
 induction h with
 | no=>exact .nil
 | mk h1 h2 h3 h4 h5 h6 h7 h8 h9 ih1 ih2=>exact .node h1 (hm _ h1) h2 h3 (fun hn=>hm _ (h3.sid_lt hn).2) h4 (fun hn=>hm _ (h4.sid_lt hn).2) h5 h6 h7 ih1 ih2
theorem Tra.imp (h:Tra O hi A t p)(e:∀ j,j<hi→B j→A j):Tra O hi B t p:=by
 induction h with
 | nil=>exact .nil
 | node h1 hm h2 h3 m3 h4 m4 h5 h6 h7 h8 h9 ih1 ih2 =>
  exact .node h1 (fun a=>hm (e _ h1 a)) h2 h3 (fun hn a=>m3 hn (e _ (h3.sid_lt hn).2 a)) h4 (fun hn a=>m4 hn (e _ (h4.sid_lt hn).2 a)) h5 h6 h7 ih1 ih2
theorem Tra.inv {k:Int}{nm:ze}{ns:List ze}{aa:List Ty}{r:Ty}(h:Tra O hi A (.mk k nm ns aa r) p):∃ id sn sa ps q,p=some id∧id<hi∧¬ A id∧Obj O id [.int .i64 k,.str nm,sn,sa,pv q]∧SV O 1 sE 0 hi ns sn∧(sn≠.nils 0 0→¬ A (sid sn))∧SV O 1 pE 0 hi ps sa∧(sa≠.nils 0 0→¬ A (sid sa)) ∧
 ps.length=aa.length∧aa.length<1000000∧ns.length<1000000∧(∀ (j:Nat) (x:Ty) (p:Option Nat),aa[j]?=some x→ps[j]?=some p→Tra O hi A x p)∧Tra O hi A r q:=by
 cases h with
 | node h1 hm h2 h3 m3 h4 m4 h5 h6 h7 h8 h9=>exact ⟨_,_,_,_,_,rfl,h1,hm,h2,h3,m3,h4,m4,h5,h6,h7,h8,h9⟩
def MadeT (an:Bool) (t:Ty):Prop:=∃ k nm ns ts r,t=.mk k nm ns ts r∧cnt t≤60∧(∀ x∈ts,okT x=true)∧(k=7→ns.length=ts.length)∧(k=8→okT r=true)∧(an=false→naT t=true)
theorem MadeT.leaf {an:Bool}{k:Int}{nm:ze}(h7:k≠7)(h8:k≠8)(h1:an=false→k≠1):MadeT an (.mk k nm [] [] .no) :=
 ⟨k,nm,[],[],.no,rfl,by simp [cnt,zaw],(fun x h=>by cases h),(fun h=>absurd h h7),(fun h=>absurd h h8),fun h=>by simp [naT,naL,h1 h]⟩
end Go.Proofs.Ytcdigdplhlgcaaa.gx
end
section
set_option maxRecDepth 100000
set_option linter.unusedVariables false
set_option linter.unusedSectionVars false
set_option linter.unusedSimpArgs false
namespace Go.Proofs.Ytcdigdplhlgcaaa.gx
open Go Ev tp
section
variable (N:Nat) (c:Int) (mk:Nat) (an:Bool)
end
variable {O O':T AObj} {N:Nat} {G:T (T AV)}
theorem MKo.same {hi mk:Nat}{xs:List UInt8}{nn:Int}{an:Bool}(h:MKo O hi mk xs nn an)(e:∀ j,j<hi→O'.get j=O.get j)(e2:O'.get mk=O.get mk):MKo O' hi mk xs nn an:=by
 obtain ⟨sl,ob,sv⟩:=h;exact ⟨sl,ob.same e2,sv.keep e⟩
end Go.Proofs.Ytcdigdplhlgcaaa.gx
end
section
set_option maxRecDepth 100000
set_option linter.unusedVariables false
set_option linter.unusedSectionVars false
set_option linter.unusedSimpArgs false
namespace Go.Proofs.Ytcdigdplhlgcaaa.gx
open Go Ev tp
section
variable (N:Nat) (sa:AV) (c:Int) (s1 s1c:AV) (bl:Bool)
end
variable {O O':T AObj} {N:Nat} {G:T (T AV)}
theorem bld44 {k:Int}{q:Option Nat}:qa P 44 [(0,.int .i64 k),(4,pv q)]=some (.agg [.int .i64 k,.str [],.nils 0 0,.nils 0 0,pv q]):=by
 cases q <;> kernel_rfl
end Go.Proofs.Ytcdigdplhlgcaaa.gx
end
section
set_option maxRecDepth 100000
set_option linter.unusedVariables false
set_option linter.unusedSectionVars false
set_option linter.unusedSimpArgs false
namespace Go.Proofs.Ytcdigdplhlgcaaa.gx
open Go Ev tp
section
variable (sn sa sn2:AV) (j j2:Int) (m:Nat) (rest:List AFrame) (O:T AObj) (N:Nat) (G:T (T AV)) (i1 i2 i3 i4 i5 i6:Nat) (z1:Int) (l1 l2:List UInt8)
noncomputable def zr5:AFrame:=frm 23 135 (tW (tW tZ sa (tX (tX (tY sa) tZ) tZ)) sn (tX (tX (tX (tY (.bool false)) tZ) tZ) tZ)) [opi 23 [1,0,0] 7,cdi 23 [1,0,1],cdi 23 [1,1]]
noncomputable def Wrec:AM:=⟨frm 23 135 (tW (tW (tX (tY (.int .i64 j)) tZ) sa tZ) sn (tX tZ (tY (.ptr m 0 0)))) [cdi 23 [1,1,1,0,1,0,0],ili 23 [1,1,1,0,1,0,0],.inBlock 0,cdi 23 [1,1,1,1]],rest,⟨O,N,G⟩⟩
noncomputable def zpu:AFrame:=frm 23 135 (tW (tW (tX (tY (.int .i64 j)) tZ) sa tZ) sn (tX (tX (tX (tX (tY (.str l1)) tZ) tZ) tZ) (tY (.ptr m 0 0)))) [opi 23 [1,1,1,0,1,0,0,1,0,0,0,0] 4,cdi 23 [1,1,1,0,1,0,0,1,0,0,0,1],cdi 23 [1,1,1,0,1,0,0,1,0,0,1],.inBlock 1,cdi 23 [1,1,1,0,1,0,0,1,1],ili 23 [1,1,1,0,1,0,0],.inBlock 0,cdi 23 [1,1,1,1]]
noncomputable def zoJ:AFrame:=frm 23 135 (tX (tX (tX tZ (tX (tX (tX (tX (tY (.ptr m 0 0)) tZ) tZ) tZ) tZ)) tZ) tZ) [opi 23 [1,1,1,1,0] 1,cdi 23 [1,0,1,0,1]]
noncomputable def Wrei:AM:=⟨frm 23 135 (tW (tW (tX (tY (.int .i64 j)) tZ) sa tZ) sn (tX (tX (tY (.int .i64 j2)) tZ) (tY (.ptr m 0 0)))) [cdi 23 [1,1,1,0,1,0,0,1,0,0,1,1,0,0,0],ili 23 [1,1,1,0,1,0,0,1,0,0,1,1,0,0,0],.inBlock 2,cdi 23 [1,1,1,0,1,0,0,1,0,0,1,1,1],.inBlock 1,cdi 23 [1,1,1,0,1,0,0,1,1],ili 23 [1,1,1,0,1,0,0],.inBlock 0,cdi 23 [1,1,1,1]],rest,⟨O,N,G⟩⟩
noncomputable def zoB:AFrame:=frm 23 135 (tW (tW (tX (tW (tX tZ (tY (.int .i64 j2))) (.int .i64 j) (tX (tY sn2) tZ)) (tX (tX (tY (.int .i64 j2)) (tY (.int .i64 j))) (tX (tY (.ptr m 0 0)) tZ))) sa (tX (tX (tX tZ (tY (.str l1))) (tX (tY (.bool (decide (j2<z1)))) tZ)) (tX (tX (tY (.ptr m 0 0)) (tY (.str l2))) (tX (tY (.ptr m 0 2)) tZ)))) sn (tX (tX (tW (tX tZ (tY (.ptr i1 i2 i3))) (.int .i64 j2) (tX (tY (.int .i64 z1)) tZ)) (tX (tX (tY (.ptr m 0 0)) (tY (.ptr i4 i5 i6))) (tX (tY (.ptr m 0 0)) tZ))) (tW (tX (tX tZ (tY sn)) (tX (tY (.bool true)) tZ)) (.ptr m 0 0) (tX (tX (tY (.ptr m 0 2)) tZ) (tX (tY sn2) tZ))))) [.drw (rg P 23 [1,1,1,0,1,0,0,1,0,0,1,1,0,0,0,0,0]) [19,20] [18,17,16,15,14,13,12,11,10,9,8,7,6,5,4,3,2,1,0],cdi 23 [1,1,1,0,1,0,0,1,0,0,1,1,0,0,0,0,1],cdi 23 [1,1,1,0,1,0,0,1,0,0,1,1,0,0,0,1],ili 23 [1,1,1,0,1,0,0,1,0,0,1,1,0,0,0],.inBlock 2,cdi 23 [1,1,1,0,1,0,0,1,0,0,1,1,1],.inBlock 1,cdi 23 [1,1,1,0,1,0,0,1,1],ili 23 [1,1,1,0,1,0,0],.inBlock 0,cdi 23 [1,1,1,1]]
noncomputable def Wrea:AM:=⟨frm 23 135 (tW (tW (tX (tY (.int .i64 j)) tZ) sa tZ) sn (tX (tX (tY (.int .i64 j2)) tZ) (tY (.ptr m 0 0)))) [cdi 23 [1,1,1,0,1,0,0,1,0,0,1,1,1],.inBlock 1,cdi 23 [1,1,1,0,1,0,0,1,1],ili 23 [1,1,1,0,1,0,0],.inBlock 0,cdi 23 [1,1,1,1]],rest,⟨O,N,G⟩⟩
noncomputable def Wreb:AM:=⟨frm 23 135 (tW (tW (tX (tY (.int .i64 j)) tZ) sa tZ) sn (tX (tX (tY (.int .i64 j2)) tZ) (tY (.ptr m 0 0)))) [cdi 23 [1,1,1,0,1,0,0,1,0,0,1,1,1,1],.inBlock 1,cdi 23 [1,1,1,0,1,0,0,1,1],ili 23 [1,1,1,0,1,0,0],.inBlock 0,cdi 23 [1,1,1,1]],rest,⟨O,N,G⟩⟩
end
section
variable {R:AV→AHeap→Prop} {keep N m i1c i2c i3c i4c i5c i6c:Nat} {f0:FuncId} {rest:List AFrame} {O:T AObj} {sn sa prq0 sn2 sa2:AV} {G:T (T AV)} {K:AM→Prop} {td:List AItem} {blq0:Bool} {j crq0 j2 z1c:Int} {l1c l2c:List UInt8}
theorem zru:(∃ (z1:Int) (z2:Int),(lN O N G 32 sn z1)∧(lN O N G 33 sa z2)∧(((z1 != z2))=true→(K (AM.mk (RF 23 135 (tX (tX tZ (tY (.int .i64 2))) (tX (tY .nilp) tZ)) [cdi 23 [1,0,1,0,1],cdi 23 [1,1]]) rest ⟨O,N,G⟩)))∧(((z1 != z2))=false→(K (AM.mk (enF 62 [sa]) ((zr5 sn sa)::rest) ⟨O,N,G⟩))))=OT f0 R keep K (.ex fun z1:Int=>(.ex fun z2:Int=>(.seq [.run 9,.hopn (.int .i64 z1) O (N),.run 1,.hopn (.int .i64 z2) O (N),.run 2] (.fork 16 (.seq [.run 12,.keep [4,5]] .fin) (.seq [.run 1,.keep [0,1,16,17],.run 1] .fin))))) ((AM.mk (enF 23 [sn,sa]) rest ⟨O,N,G⟩)):=by kernel_rfl
theorem zeC:((((!blq0))=true→(K (AM.mk (RF 23 135 (tX (tX tZ (tY (.int .i64 2))) (tX (tY .nilp) tZ)) [cdi 62 [1,0,1,0,0,1,0,0,1,0,1],cdi 23 [1,1]]) rest ⟨O,N,G⟩)))∧(((!blq0))=false→(∃ (O1:T AObj),(T.set ((some (.cells (tW (tW (tY (.nils 0 0)) (.str []) tZ) (.int .i64 7) (tW (tY .nilp) (.nils 0 0) tZ)) 5 44 0 0 1 0 false .leaf))) (O) (N)=O1)∧K (Wrec sn sa 0 N rest O1 (N+1) G))))=OT f0 R keep K (.seq [.run 4] (.fork 20 (.seq [.run 7,.keep [4,5]] .fin) (.ex fun O1:T AObj=>(.seq [.run 5,.hop (.nilp) O1,.run 9,.keep [0,1,6,7]] .fin)))) ((AM.mk (RF 62 16 (tX tZ (tY (.bool blq0))) td) ((zr5 sn sa)::rest) ⟨O,N,G⟩)):=by kernel_rfl
theorem zll:(∃ (z1:Int),(lN O N G 32 sn z1)∧((decide (j<z1))=true→(∃ (i1:Nat) (i2:Nat) (i3:Nat) (l1:List UInt8),(iX 32 sn j i1 i2 i3)∧(lR O N G i1 i2 i3 (.str l1))∧K (AM.mk (enF 63 [.str l1]) ((zpu sn sa j m l1)::rest) ⟨O,N,G⟩)))∧((decide (j<z1))=false→(K (AM.mk (enF 65 [.ptr m 0 0]) ((zoJ m)::rest) ⟨O,N,G⟩))))=OT f0 R keep K (.ex fun z1:Int=>(.seq [.run 5,.hopn (.int .i64 z1) O (N),.run 2] (.fork 26 (.ex fun i1:Nat=>(.ex fun i2:Nat=>(.ex fun i3:Nat=>(.ex fun l1:List UInt8=>(.seq [.run 9,.hopn (.ptr i1 i2 i3) O (N),.hop (.str l1) O,.keep [0,1,6,7,32],.run 1] .fin))))) (.seq [.run 5,.keep [131],.run 1] .fin)))) ((Wrec sn sa j m rest O N G)):=by kernel_rfl
theorem zi8:((((!blq0))=true→(K (AM.mk (RF 23 135 (tX (tX tZ (tY (.int .i64 2))) (tX (tY .nilp) tZ)) [cdi 63 [1,0,1,0,1],cdi 23 [1,1,1,0,1,0,0,1,0,0,1],.inBlock 1,cdi 23 [1,1,1,0,1,0,0,1,1],ili 23 [1,1,1,0,1,0,0],.inBlock 0,cdi 23 [1,1,1,1]]) rest ⟨O,N,G⟩)))∧(((!blq0))=false→(K (Wrei sn sa j 0 m rest O N G))))=OT f0 R keep K (.seq [.run 3] (.fork 34 (.seq [.run 7,.keep [4,5]] .fin) (.seq [.run 9,.keep [0,1,6,7,8]] .fin))) ((AM.mk (RF 63 41 (tX tZ (tY (.bool blq0))) td) ((zpu sn sa j m l1c)::rest) ⟨O,N,G⟩)):=by kernel_rfl
theorem jQ:(K (AM.mk (RF 23 135 (tX (tX tZ (tY (.int .i64 crq0))) (tX (tY prq0) tZ)) [cdi 23 [1,0,1,0,1]]) rest ⟨O,N,G⟩))=OT f0 R keep K (.seq [.run 7,.keep [4,5]] .fin) ((AM.mk (RF 65 8 (tX (tX (tY (.int .i64 crq0)) tZ) (tY prq0)) td) ((zoJ m)::rest) ⟨O,N,G⟩)):=by kernel_rfl
theorem zod:(∃ (z1:Int),(lC O N G m 2 sn2)∧(lN O N G 32 sn2 z1)∧((decide (j2<z1))=true→(∃ (i1:Nat) (i2:Nat) (i3:Nat) (l1:List UInt8) (i4:Nat) (i5:Nat) (i6:Nat) (l2:List UInt8),(lC O N G m 2 sn2)∧(iX 32 sn2 j2 i1 i2 i3)∧(lR O N G i1 i2 i3 (.str l1))∧(iX 32 sn j i4 i5 i6)∧(lR O N G i4 i5 i6 (.str l2))∧K (AM.mk (enF 64 [.str l1,.str l2]) ((zoB sn sa sn2 j j2 m i1 i2 i3 i4 i5 i6 z1 l1 l2)::rest) ⟨O,N,G⟩)))∧((decide (j2<z1))=false→(K (Wrea sn sa j j2 m rest O N G))))=OT f0 R keep K (.ex fun z1:Int=>(.seq [.run 7,.hop (sn2) O,.hopn (.int .i64 z1) O (N),.run 2] (.fork 42 (.ex fun i1:Nat=>(.ex fun i2:Nat=>(.ex fun i3:Nat=>(.ex fun l1:List UInt8=>(.ex fun i4:Nat=>(.ex fun i5:Nat=>(.ex fun i6:Nat=>(.ex fun l2:List UInt8=>(.seq [.run 3,.hop (sn2) O,.run 1,.hopn (.ptr i1 i2 i3) O (N),.hop (.str l1) O,.run 2,.hopn (.ptr i4 i5 i6) O (N),.hop (.str l2) O,.run 1] .fin))))))))) (.seq [.run 16,.keep [0,1,6,7,8]] .fin)))) ((Wrei sn sa j j2 m rest O N G)):=by kernel_rfl
theorem zi9:(((blq0)=true→(K (Wrei sn sa j (IntKind.i64.wrap (j2+(1:Int))) m rest O N G)))∧((blq0)=false→(K (Wrea sn sa j j2 m rest O N G))))=OT f0 R keep K (.seq [.run 3] (.fork 55 (.seq [.run 10,.keep [0,1,6,7,8]] .fin) (.seq [.run 2,.keep [0,1,6,7,8]] .fin))) ((AM.mk (RF 64 37 (tX tZ (tX (tY (.bool blq0)) tZ)) td) ((zoB sn sa sn2 j j2 m i1c i2c i3c i4c i5c i6c z1c l1c l2c)::rest) ⟨O,N,G⟩)):=by kernel_rfl
theorem zov:(∃ (z1:Int),(lC O N G m 2 sn2)∧(lN O N G 32 sn2 z1)∧((decide (j2<z1))=true→(∃ (i1:Nat) (i2:Nat) (i3:Nat) (l1:List UInt8) (i4:Nat) (i5:Nat) (i6:Nat) (l2:List UInt8),(lC O N G m 2 sn2)∧(iX 32 sn2 j2 i1 i2 i3)∧(lR O N G i1 i2 i3 (.str l1))∧(iX 32 sn j i4 i5 i6)∧(lR O N G i4 i5 i6 (.str l2))∧(((l1==l2))=true→(K (AM.mk (RF 23 135 (tX (tX tZ (tY (.int .i64 2))) (tX (tY .nilp) tZ)) [cdi 23 [1,0,1,0,1],cdi 23 [1,1,1,0,1,0,0,1,0,0,1,1,1,1],.inBlock 1,cdi 23 [1,1,1,0,1,0,0,1,1],ili 23 [1,1,1,0,1,0,0],.inBlock 0,cdi 23 [1,1,1,1]]) rest ⟨O,N,G⟩)))∧(((l1==l2))=false→(K (Wreb sn sa j j2 m rest O N G)))))∧((decide (j2<z1))=false→(K (Wreb sn sa j j2 m rest O N G))))=OT f0 R keep K (.ex fun z1:Int=>(.seq [.run 7,.hop (sn2) O,.hopn (.int .i64 z1) O (N),.run 2] (.fork 65 (.ex fun i1:Nat=>(.ex fun i2:Nat=>(.ex fun i3:Nat=>(.ex fun l1:List UInt8=>(.ex fun i4:Nat=>(.ex fun i5:Nat=>(.ex fun i6:Nat=>(.ex fun l2:List UInt8=>(.seq [.run 3,.hop (sn2) O,.run 1,.hopn (.ptr i1 i2 i3) O (N),.hop (.str l1) O,.run 2,.hopn (.ptr i4 i5 i6) O (N),.hop (.str l2) O,.run 3] (.fork 78 (.seq [.run 7,.keep [4,5]] .fin) (.seq [.run 2,.keep [0,1,6,7,8]] .fin))))))))))) (.seq [.run 16,.keep [0,1,6,7,8]] .fin)))) ((Wrea sn sa j j2 m rest O N G)):=by kernel_rfl
theorem ztS:(∃ (s1:AV) (s2:AV) (O1:T AObj) (N1:Nat) (i1:Nat) (i2:Nat) (i3:Nat) (l1:List UInt8) (O2:T AObj) (s3:AV) (O3:T AObj) (N2:Nat) (s4:AV) (s5:AV) (O4:T AObj) (N3:Nat) (O5:T AObj) (s6:AV) (s7:AV) (O6:T AObj) (N4:Nat) (i4:Nat) (i5:Nat) (i6:Nat) (s8:AV) (O7:T AObj) (s9:AV) (O8:T AObj) (N5:Nat) (s10:AV) (s11:AV) (O9:T AObj) (N6:Nat) (O10:T AObj),(lC O N G m 2 sn2)∧(zN P (⟨O,N,G⟩) (32) (sn2) (none) ((some j2)) (none)=(some s1))∧(zi P (⟨O,N,G⟩) (Builtin.append) ((some 32)) ((some 32)) ([.nils 0 0,s1])=(some (.val s2 ⟨O1,N1,G⟩)))∧(iX 32 sn j i1 i2 i3)∧(lR O1 N1 G i1 i2 i3 (.str l1))∧(zg P (⟨O1,N1,G⟩) (32) (1) ([(0,.str l1)])=(some (.slc N1 0 0 1 1,⟨O2,N1+1,G⟩)))∧(zi P (⟨O2,N1+1,G⟩) (Builtin.append) ((some 32)) ((some 32)) ([s2,.slc N1 0 0 1 1])=(some (.val s3 ⟨O3,N2,G⟩)))∧(lC O3 N2 G m 2 sn2)∧(zN P (⟨O3,N2,G⟩) (32) (sn2) ((some j2)) (none) (none)=(some s4))∧(zi P (⟨O3,N2,G⟩) (Builtin.append) ((some 32)) ((some 32)) ([s3,s4])=(some (.val s5 ⟨O4,N3,G⟩)))∧(s5.cells.length.beq (1)=true∧zc (⟨O4,N3,G⟩:AHeap) m (0) (2) s5.cells=some (⟨O5,N3,G⟩:AHeap))∧(lC O5 N3 G m 3 sa2)∧(zN P (⟨O5,N3,G⟩) (33) (sa2) (none) ((some j2)) (none)=(some s6))∧(zi P (⟨O5,N3,G⟩) (Builtin.append) ((some 33)) ((some 33)) ([.nils 0 0,s6])=(some (.val s7 ⟨O6,N4,G⟩)))∧(iX 33 sa j i4 i5 i6)∧(lR O6 N4 G i4 i5 i6 s8)∧(zg P (⟨O6,N4,G⟩) (33) (1) ([(0,s8)])=(some (.slc N4 0 0 1 1,⟨O7,N4+1,G⟩)))∧(zi P (⟨O7,N4+1,G⟩) (Builtin.append) ((some 33)) ((some 33)) ([s7,.slc N4 0 0 1 1])=(some (.val s9 ⟨O8,N5,G⟩)))∧(lC O8 N5 G m 3 sa2)∧(zN P (⟨O8,N5,G⟩) (33) (sa2) ((some j2)) (none) (none)=(some s10))∧(zi P (⟨O8,N5,G⟩) (Builtin.append) ((some 33)) ((some 33)) ([s9,s10])=(some (.val s11 ⟨O9,N6,G⟩)))∧(s11.cells.length.beq (1)=true∧zc (⟨O9,N6,G⟩:AHeap) m (0) (3) s11.cells=some (⟨O10,N6,G⟩:AHeap))∧K (Wrec sn sa (IntKind.i64.wrap (j+(1:Int))) m rest O10 N6 G))=OT f0 R keep K (.ex fun s1:AV=>(.ex fun s2:AV=>(.ex fun O1:T AObj=>(.ex fun N1:Nat=>(.ex fun i1:Nat=>(.ex fun i2:Nat=>(.ex fun i3:Nat=>(.ex fun l1:List UInt8=>(.ex fun O2:T AObj=>(.ex fun s3:AV=>(.ex fun O3:T AObj=>(.ex fun N2:Nat=>(.ex fun s4:AV=>(.ex fun s5:AV=>(.ex fun O4:T AObj=>(.ex fun N3:Nat=>(.ex fun O5:T AObj=>(.ex fun s6:AV=>(.ex fun s7:AV=>(.ex fun O6:T AObj=>(.ex fun N4:Nat=>(.ex fun i4:Nat=>(.ex fun i5:Nat=>(.ex fun i6:Nat=>(.ex fun s8:AV=>(.ex fun O7:T AObj=>(.ex fun s9:AV=>(.ex fun O8:T AObj=>(.ex fun N5:Nat=>(.ex fun s10:AV=>(.ex fun s11:AV=>(.ex fun O9:T AObj=>(.ex fun N6:Nat=>(.ex fun O10:T AObj=>(.seq [.run 10,.hop (sn2) O,.run 1,.hop (s1) O,.hopn (s2) O1 (N1),.run 7,.hopn (.ptr i1 i2 i3) O1 (N1),.hop (.str l1) O1,.hopn (.slc N1 0 0 1 1) O2 (N1+1),.hopn (s3) O3 (N2),.run 9,.hop (sn2) O3,.run 1,.hop (s4) O3,.hopn (s5) O4 (N3),.run 2,.hopn (.nilp) O5 (N3),.run 11,.hop (sa2) O5,.run 1,.hop (s6) O5,.hopn (s7) O6 (N4),.run 7,.hopn (.ptr i4 i5 i6) O6 (N4),.hop (s8) O6,.hopn (.slc N4 0 0 1 1) O7 (N4+1),.hopn (s9) O8 (N5),.run 8,.hop (sa2) O8,.run 1,.hop (s10) O8,.hopn (s11) O9 (N6),.run 2,.hopn (.nilp) O10 (N6),.run 8,.keep [0,1,6,7]] .fin))))))))))))))))))))))))))))))))))) ((Wreb sn sa j j2 m rest O N G)):=by kernel_rfl
end
variable {O O':T AObj} {N:Nat} {G:T (T AV)}
theorem litS (s:ze):∀ h:AHeap,zg P h 32 1 [(0,.str s)]=some (.slc h.next 0 0 1 1,xu h 9 (sE s) false):=fun h=>by kernel_rfl
theorem zrf (p:Option Nat):∀ h:AHeap,zg P h 33 1 [(0,pv p)]=some (.slc h.next 0 0 1 1,xu h 23 (pE p) false):=fun h=>by cases p <;> kernel_rfl
theorem zkB {ns:List ze}{ts:List Ty}{ps:List (Option Nat)}{sn sa:AV}{hi:Nat}{mk:Nat→Prop}(hn:SV O 1 sE 0 hi ns sn)(hs:SV O 1 pE 0 hi ps sa)(hl:ps.length=ts.length)(hm:ts.length<1000000)(ht:∀ (j:Nat) (x:Ty) (p:Option Nat),ts[j]?=some x→ps[j]?=some p→Tra O hi mk x p)(hN:hi≤N)(hmN:∀ j,mk j→j<N){keep:Nat}{f0:FuncId}{Q:AV→AHeap→Prop}{rest:List AFrame}
 (hK:∀ O' N' td p',Ext O N O' N'→Tra O' N' mk (y0 ns ts).2 p'→Goal P keep f0 Q (AM.mk (RF 23 135 (tX (tX tZ (tY (.int .i64 (y0 ns ts).1))) (tX (tY (pv p')) tZ)) td) rest ⟨O',N',G⟩)):Goal P keep f0 Q (AM.mk (enF 23 [sn,sa]) rest ⟨O,N,G⟩):=by
 have bad:y0 ns ts=(2,.no)→∀ O' N' td,Ext O N O' N'→Goal P keep f0 Q (AM.mk (RF 23 135 (tX (tX tZ (tY (.int .i64 2))) (tX (tY .nilp) tZ)) td) rest ⟨O',N',G⟩):=fun e O' N' td ex=>by
  have:=hK O' N' td none ex (by rw [e]; exact Tra.nil);rw [e] at this;exact this
 refine ot zru ⟨_,_,hn.len sSl _ _,hs.len pSl _ _,fun hc21=>?_,fun hc21=>?_⟩
 ·
  exact bad (by unfold y0; rw [if_neg (fun h=>by have:=bne_iff_ne.1 hc21; omega)]) O N _ Ext.refl
 ·
  have hlen:ns.length=ts.length:=by
   have:=bne_eq_false_iff_eq.1 hc21;omega
  refine zhj hs hl hm (fun j x p a b=>(ht j x p a b).tr) hN fun O1 N1 td1 ex1=>?_;have nn1:=ex1.1;refine ot zeC ⟨fun hc18=>?_,fun hc18=>?_⟩
  ·
   exact bad (by unfold y0; rw [if_neg (fun h=>by rw [h.2] at hc18; cases hc18)]) O1 N1 _ ex1
  ·
   obtain ⟨OZ,e19,b19,f19⟩:=Obj.mk (c:=(tW (tW (tY (.nils 0 0)) (.str []) tZ) (.int .i64 7) (tW (tY .nilp) (.nils 0 0) tZ))) (el:=44) [(.int .i64 7),(.str []),(.nils 0 0),(.nils 0 0),.nilp] O1 N1 5 rfl (fun u hu=>by rcases u with _ | _ | _ | _ | _ | u <;> first | rfl | omega)
   refine ⟨OZ,e19,?_⟩;have hok:ts.all (fun x=>chk x==0)=true:=by simpa using hc18
   have loop:∀ (k i:Nat) (M:Nat) (O2:T AObj) (N2:Nat) (xs:List ze) (us:List Ty) (qs:List (Option Nat)) (sn2 sa2:AV),i+k=ns.length→Ext O N O2 N2→N≤M→M<N2→Obj O2 M [.int .i64 7,.str [],sn2,sa2,.nilp]→SV O2 1 sE (M+1) N2 xs sn2→SV O2 1 pE (M+1) N2 qs sa2 →
    xs.length=us.length→qs.length=us.length→us.length≤i→(∀ x∈xs,zh x=true)→(∀ (j:Nat) (x:Ty) (p:Option Nat),us[j]?=some x→qs[j]?=some p→Tra O hi mk x p) →
    zh3 ns ts [] []=zh3 (ns.drop i) (ts.drop i) xs us→Goal P keep f0 Q (Wrec sn sa ((i:Nat):Int) M rest O2 N2 G):=by
    intro k
    induction k with
    | zero =>
     intro i M O2 N2 xs us qs sn2 sa2 hk ex hNM hMN ob vn va l1 l2 l3 hf hr hv;have nn:=ex.1;have hn2:=hn.keep (O':=O2) (fun j _ hj=>ex.2 j (by omega)) (Nat.le_refl 0) (Nat.le_refl hi);rw [List.drop_of_length_le (by omega),recS_nil] at hv;have e7:y0 ns ts=kv (.mk 7 [] xs us .no):=by
      unfold y0;rw [if_pos ⟨hlen,hok⟩,hv]
     refine ot zll ⟨_,hn2.len sSl _ _,fkf (decide_eq_false (by omega)) ?_⟩;have node:Tra O2 N2 mk (.mk 7 [] xs us .no) (some M):=Tra.node hMN (fun h=>by have:=hmN _ h; omega) ob (vn.keep (fun _ _ _=>rfl) (Nat.zero_le _) (Nat.le_refl _)) (fun h hA=>by have:=(vn.sid_lt h).1; have:=hmN _ hA; omega) (va.keep (fun _ _ _=>rfl) (Nat.zero_le _) (Nat.le_refl _)) (fun h hA=>by have:=(va.sid_lt h).1; have:=hmN _ hA; omega) l2 (by omega) (by omega) (fun j x p a b=>(hr j x p a b).same (fun i h1 _=>ex.2 i (by omega)) (by omega)) Tra.nil;refine ziz (p:=some M) node.tr (fun h td=>?_) (fun h td=>?_)
     ·have e3:y0 ns ts=(3,.no):=by rw [e7]; unfold kv; rw [if_pos h]
      have:=fun td=>hK O2 N2 td none ex (by rw [e3]; exact Tra.nil);rw [e3] at this;exact ot jQ (this _)
     ·have e3:y0 ns ts=(0,.mk 7 [] xs us .no):=by rw [e7]; unfold kv; rw [if_neg (by omega)]
      have:=fun td=>hK O2 N2 td (some M) ex (by rw [e3]; exact node);rw [e3] at this;exact ot jQ (this _)
    | succ k ih0 =>
     intro i M O2 N2 xs us qs sn2 sa2 hk ex hNM hMN ob vn va l1 l2 l3 hf hr hv;have ih:=fun i=>fun O2 N2 xs us qs sn2 sa2 h1 h2 h3=>ih0 i M O2 N2 xs us qs sn2 sa2 h1 h2 hNM h3;have nn:=ex.1;have hn2:=hn.keep (O':=O2) (fun j _ hj=>ex.2 j (by omega)) (Nat.le_refl 0) (Nat.le_refl hi);have hs2:=hs.keep (O':=O2) (fun j _ hj=>ex.2 j (by omega)) (Nat.le_refl 0) (Nat.le_refl hi);obtain ⟨x,hx,hxm⟩:=nth (l:=ns) (j:=i) (by omega);obtain ⟨t,hxt,hxtm⟩:=nth (l:=ts) (j:=i) (by omega);obtain ⟨y,hy,_⟩:=nth (l:=ps) (j:=i) (by omega);rw [zr hx,zr hxt] at hv;rw [kF] at hv;refine ot zll ⟨_,hn2.len sSl _ _,fkt (decide_eq_true (by omega)) ?_⟩;obtain ⟨i1,i2,i3,lo15,hi15,eA15,rd15,_⟩:=hn2.at sSl sEn hx;refine ⟨i1,i2,i3,_,eA15,rd15.load rfl _ _,?_⟩;refine zpC x fun td1=>?_;refine ot zi8 ⟨fun hc14=>?_,fun hc14=>?_⟩
     ·
      rw [if_neg (by simpa using hc14)] at hv
      exact bad (by unfold y0; rw [if_pos ⟨hlen,hok⟩,hv]) O2 N2 _ ex
     ·
      have hfx:zh x=true:=by simpa using hc14
      have hx24:=yM hfx;rw [if_pos hfx] at hv;have after:∀ a,wn (fun z=>Op.bytesLess z x) xs=a→Goal P keep f0 Q (Wrea sn sa ((i:Nat):Int) ((a:Nat):Int) M rest O2 N2 G):=by
       intro a hua;have hal:a≤xs.length:=hua▸zb9;rw [hua] at hv;have insd:xs[a]?≠some x→Goal P keep f0 Q (Wreb sn sa ((i:Nat):Int) ((a:Nat):Int) M rest O2 N2 G):=by
        intro hne;rw [if_neg hne] at hv;obtain ⟨r1,r2,r3,lor,hir,eR,rdR,_⟩:=hn2.at sSl sEn hx;obtain ⟨p1,p2,p3,lop,hip,eP,rdP,_⟩:=hs2.at pSl pEn hy;obtain ⟨s1,O3,N3,s2,O4,O5,N4,s3,s4,O6,N5,s5,a1,a2,a3,a4,a5,a6,g6,m1,m2,m3,f3,f5,f6⟩:=zbL sSl sEn vn (Nat.le_refl _) hal x (litS x) (by omega) G;have ob5:=ob.same (f5 M hMN);have ob6:=ob.same (f6 M hMN);obtain ⟨O7,st7,ob7,fr7⟩:=ob6.store 2 [s5] N5 G (Nat.le_of_ble_eq_true rfl) (by simp only [List.all_cons,List.all_nil,Bool.and_true]; exact (g6.sv sEn).one);have va7:=va.keep (O':=O7) (lo':=M+1) (hi':=N5) (fun j h1 h2=>(fr7 j (by omega)).trans (f6 j h2)) (Nat.le_refl _) (by omega);obtain ⟨t1,O8,N6,t2,O9,OA,N7,t3,t4,OB,N8,t5,c1,c2,c3,c4,c5,c6,g9,m4,m5,m6,f8,fA,fB⟩:=zbL pSl pEn va7 (Nat.le_refl _) (a:=a) (by omega) y (zrf y) (by omega) G;have obA:=ob7.same (fA M (by omega));have obB:=ob7.same (fB M (by omega));obtain ⟨OC,stC,obC,frC⟩:=obB.store 3 [t5] N8 G (Nat.le_of_ble_eq_true rfl) (by simp only [List.all_cons,List.all_nil,Bool.and_true]; exact (g9.sv pEn).one);have low7:∀ j,j<N2→j≠M→O7.get j=O2.get j:=fun j h1 h2=>(fr7 j h2).trans (f6 j h1);have lowC:∀ j,j<N2→j≠M→OC.get j=O2.get j:=fun j h1 h2=>(frC j h2).trans ((fB j (by omega)).trans (low7 j h1 h2));have exC:Ext O N OC N8:=⟨by omega,fun j hj=>(lowC j (by omega) (by omega)).trans (ex.2 j hj)⟩;have nx:=ih (i+1) OC N8 (ins a x xs) (ins a t us) (ins a y qs) s5 t5 (by omega) exC (by omega) obC
         ((g6.sv sEn).same (fun h=>(frC _ (by have:=((g6.sv sEn).sid_lt h).1; omega)).trans ((fB _ ((g6.sv sEn).sid_lt h).2).trans (fr7 _ (by have:=((g6.sv sEn).sid_lt h).1; omega)))) (by omega) (by omega))
         ((g9.sv pEn).same (fun h=>frC _ (by have:=((g9.sv pEn).sid_lt h).1; omega)) (by omega) (Nat.le_refl _))
         (by rw [qh hal,qh (by omega)]; omega) (by rw [qh (by omega),qh (by omega)]; omega) (by rw [qh (by omega)]; omega)
         (fun z hz=>(zae.1 hz).elim (fun h=>h▸hfx) (hf z)) (zlS l2 (by omega) (ht i t y hxt hy) hr) hv
        rw [← zq (i:=i) (by omega)] at nx;exact ot ztS ⟨_,_,_,_,_,_,_,_,_,_,_,_,_,_,_,_,_,_,_,_,_,_,_,_,_,_,_,_,_,_,_,_,_,_,ob.ld 2 rfl,a1,a2,eR,(rdR.same (f3 _ (by omega))).load rfl _ _,a3,a4,ob5.ld 2 rfl,a5,a6,(by rw [(g6.sv sEn).cells]; exact ⟨rfl,st7⟩),ob7.ld 3 rfl,c1,c2,eP,(rdP.same ((f8 _ (by omega)).trans (low7 _ (by omega) (by omega)))).load rfl _ _,c3,c4,obA.ld 3 rfl,c5,c6,(by rw [(g9.sv pEn).cells]; exact ⟨rfl,stC⟩),nx⟩
       have full:xs[a]?=some x→y0 ns ts=(2,.no):=fun he=>by
        rw [if_pos he] at hv;unfold y0;rw [if_pos ⟨hlen,hok⟩,hv]
       by_cases hla:a<xs.length
       ·obtain ⟨z,hz,_⟩:=nth (l:=xs) (j:=a) hla;refine ot (zov (sn2:=sn2)) ⟨_,ob.ld 2 rfl,vn.len sSl _ _,fkt (decide_eq_true (by omega)) ?_⟩;obtain ⟨i1,i2,i3,lo4,hi4,eA4,rd4,_⟩:=vn.at sSl sEn hz;obtain ⟨i4,i5,i6,lo5,hi5,eA5,rd5,_⟩:=hn2.at sSl sEn hx;refine ⟨i1,i2,i3,_,i4,i5,i6,_,ob.ld 2 rfl,eA4,rd4.load rfl _ _,eA5,rd5.load rfl _ _,fun hc6=>?_,fun hc6=>?_⟩
        ·
         exact bad (full (by rw [hz,eq_of_beq hc6])) O2 N2 _ ex
        ·
         exact insd (by rw [hz]; intro h; injection h with h; rw [h] at hc6; simp at hc6)
       ·skip
        refine ot (zov (sn2:=sn2)) ⟨_,ob.ld 2 rfl,vn.len sSl _ _,fkf (decide_eq_false (by omega)) ?_⟩;exact insd (by rw [List.getElem?_eq_none (by omega)]; simp)
      have inner:∀ (k' a:Nat),a+k'=xs.length→(∀ k,k<a→∃ z,xs[k]?=some z∧Op.bytesLess z x=true)→Goal P keep f0 Q (Wrei sn sa ((i:Nat):Int) ((a:Nat):Int) M rest O2 N2 G):=by
       intro k'
       induction k' with
       | zero =>
        intro a hk' hbel;have nx:=after a (zbs hbel (.inl (by omega)));refine ot (zod (sn2:=sn2)) ⟨_,ob.ld 2 rfl,vn.len sSl _ _,fkf (decide_eq_false (by omega)) ?_⟩;exact nx
       | succ k' ih' =>
        intro a hk' hbel;obtain ⟨z,hz,hzm⟩:=nth (l:=xs) (j:=a) (by omega);have hz24:=yM (hf z hzm);refine ot (zod (sn2:=sn2)) ⟨_,ob.ld 2 rfl,vn.len sSl _ _,fkt (decide_eq_true (by omega)) ?_⟩;obtain ⟨i1,i2,i3,lo10,hi10,eA10,rd10,_⟩:=vn.at sSl sEn hz;obtain ⟨i4,i5,i6,lo11,hi11,eA11,rd11,_⟩:=hn2.at sSl sEn hx;refine ⟨i1,i2,i3,_,i4,i5,i6,_,ob.ld 2 rfl,eA10,rd10.load rfl _ _,eA11,rd11.load rfl _ _,?_⟩;refine ziq z x (by omega) (by omega) fun td2=>?_;refine ot zi9 ⟨fun hc2=>?_,fun hc2=>?_⟩
        ·
         have nx:=ih' (a+1) (by omega) (fun k hk=>by
          by_cases hka:k=a
          ·exact ⟨z,hka▸hz,hc2⟩
          ·exact hbel k (by omega))
         rw [← zq (i:=a) (by omega)] at nx;exact nx
        ·
         exact after a (zbs hbel (.inr ⟨z,hz,hc2⟩))
      exact inner xs.length 0 (Nat.zero_add _) (fun k h=>absurd h (Nat.not_lt_zero _))
   exact loop ns.length 0 _ _ _ [] [] [] _ _ (Nat.zero_add _) ⟨by omega,fun j hj=>(f19 j (by omega)).trans (ex1.2 j hj)⟩ nn1 (Nat.lt_succ_self _) b19 SV.nil SV.nil rfl rfl (Nat.le_refl _) (fun x h=>by cases h) (fun j x p h=>by simp at h) (by rw [List.drop_zero,List.drop_zero])
end Go.Proofs.Ytcdigdplhlgcaaa.gx
end
section
set_option maxRecDepth 100000
set_option linter.unusedVariables false
set_option linter.unusedSectionVars false
namespace Go.Proofs.Ytcdigdplhlgcaaa.gx
open Go Ev tp
variable {O O':T AObj} {N hi hi':Nat} {mk:Nat→Prop} {G:T (T AV)}
theorem jz {α:Type}{l:List α}{i:Nat}{x:α}(h:l[i]?=some x):l.take (i+1)=l.take i++[x]:=by
 obtain ⟨h1,h2⟩:=List.getElem?_eq_some_iff.1 h;rw [List.take_add_one,h];rfl
theorem zgi {α β:Type}{R:α→β→Prop}{l:List α}{m:List β}(hl:m.length=l.length)(h:∀ (j:Nat) x y,l[j]?=some x→m[j]?=some y→R x y){l':List α}{m':List β}(h':∀ (j:Nat) x y,l'[j]?=some x→m'[j]?=some y→R x y)(j:Nat)(x:α)(y:β)(a:(l++l')[j]?=some x)(b:(m++m')[j]?=some y):R x y:=by
 by_cases hj:j<l.length
 ·rw [List.getElem?_append_left hj] at a;rw [List.getElem?_append_left (by omega)] at b;exact h j x y a b
 ·rw [List.getElem?_append_right (by omega)] at a b;rw [hl] at b;exact h' _ x y a b
theorem zho:∀ {l:List Ty},(∀ z∈l,1≤cnt z)→l.length≤zaw l
 | [],_=>Nat.zero_le _
 | x::l,h=>by
  have:=zho (l:=l) fun z hz=>h z (List.mem_cons_of_mem _ hz);have:=h x List.mem_cons_self;rw [wS,List.length_cons];omega
theorem SV.lenE {α:Type}{sz:Nat}{enc:α→List AV}{st el:TypeId}{by' lo hi:Nat}(S:SlT st el sz by'){xs:List α}{s:AV}(h:SV O sz enc lo hi xs s){n:Nat}(e:xs.length=n)(N:Nat)(G:T (T AV)):zL P ⟨O,N,G⟩ .len (some st) [s]=some (.int .i64 ((n:Nat):Int)):=e▸h.len S N G
theorem Tra.self {t:Ty}{p:Option Nat}(h:Tra O hi mk t p)(hh:hi≤hi'):Tra O hi' mk t p:=h.same (fun _ _ _=>rfl) hh
end Go.Proofs.Ytcdigdplhlgcaaa.gx
end
section
set_option maxRecDepth 100000
set_option linter.unusedVariables false
set_option linter.unusedSectionVars false
set_option linter.unusedSimpArgs false
namespace Go.Proofs.Ytcdigdplhlgcaaa.gx
open Go Ev tp
section
variable (sa:AV) (j j2:Int) (sl sl2:AV) (rest:List AFrame) (O:T AObj) (N:Nat) (G:T (T AV)) (i1 i2 i3 i4 i5 i6:Nat) (s1 s2:AV) (z1:Int) (lrq0 lrq1:List UInt8) (i1c i2c i3c i4c i5c i6c:Nat) (s1c s2c:AV) (z1c:Int)
noncomputable def zti:AFrame:=frm 26 129 (tW (tX tZ (tX tZ (tY (.bool false)))) sa (tX tZ (tX tZ (tY sa)))) [opi 26 [1,0,0] 5,cdi 26 [1,0,1],cdi 26 [1,1]]
noncomputable def zrt:AM:=⟨frm 26 129 (tW (tX tZ (tY (.int .i64 j))) sa (tX (tY sl) tZ)) [cdi 26 [1,1,1,0,1,0,0],ili 26 [1,1,1,0,1,0,0],.inBlock 0,cdi 26 [1,1,1,1]],rest,⟨O,N,G⟩⟩
noncomputable def zrb:AM:=⟨frm 26 129 (tX (tX (tX (tY (.int .i64 j)) tZ) tZ) (tX (tY sl) (tY sl2))) [cdi 26 [1,1,1,1,1,0,1,0,0],ili 26 [1,1,1,1,1,0,1,0,0],.inBlock 2,cdi 26 [1,1,1,1,1,1]],rest,⟨O,N,G⟩⟩
noncomputable def Wunc:AM:=⟨frm 26 129 (tX (tX (tX (tY (.int .i64 j)) tZ) tZ) (tX (tW (tY (.int .i64 j2)) sl tZ) (tY sl2))) [cdi 26 [1,1,1,1,1,0,1,0,0,1,0,0,1,0,0,0],ili 26 [1,1,1,1,1,0,1,0,0,1,0,0,1,0,0,0],.inBlock 4,cdi 26 [1,1,1,1,1,0,1,0,0,1,0,0,1,1],.inBlock 3,cdi 26 [1,1,1,1,1,0,1,0,0,1,1],ili 26 [1,1,1,1,1,0,1,0,0],.inBlock 2,cdi 26 [1,1,1,1,1,1]],rest,⟨O,N,G⟩⟩
noncomputable def Wund:AM:=⟨frm 26 129 (tX tZ (tX tZ (tY sl2))) [cdi 26 [1,1,1,1,1,1]],rest,⟨O,N,G⟩⟩
noncomputable def zoL:AFrame:=frm 26 129 (tX (tX (tX (tW tZ (.int .i64 j) (tX (tX (tY (.ptr i1 i2 i3)) tZ) tZ)) (tX (tX (tX (tY (.bool (decide (j2<z1)))) tZ) tZ) (tX (tX (tY (.int .i64 j)) tZ) tZ))) (tX (tX (tX (tX (tY sl2) tZ) tZ) tZ) (tX (tX (tX (tY sl2) tZ) tZ) (tX (tX (tY s2) tZ) tZ)))) (tX (tW (tW (tX (tX (tY (.int .i64 j2)) tZ) tZ) (.int .i64 j2) (tX (tX (tY s1) tZ) tZ)) sl (tX (tX (tX (tY (.bool true)) tZ) tZ) (tX (tX (tY (.ptr i4 i5 i6)) tZ) tZ))) (tW (tX (tX (tX (tY (.int .i64 z1)) tZ) tZ) (tX (tX (tY sl) tZ) tZ)) sl2 (tX (tX (tX (tY (.int .i64 j2)) tZ) tZ) tZ)))) [.drw (rg P 26 [1,1,1,1,1,0,1,0,0,1,0,0,1,0,0,0,0,0]) [9,14,15,16] [13,12,11,10,8,7,6,5,4,3,2,1,0],cdi 26 [1,1,1,1,1,0,1,0,0,1,0,0,1,0,0,0,0,1],cdi 26 [1,1,1,1,1,0,1,0,0,1,0,0,1,0,0,0,1],ili 26 [1,1,1,1,1,0,1,0,0,1,0,0,1,0,0,0],.inBlock 4,cdi 26 [1,1,1,1,1,0,1,0,0,1,0,0,1,1],.inBlock 3,cdi 26 [1,1,1,1,1,0,1,0,0,1,1],ili 26 [1,1,1,1,1,0,1,0,0],.inBlock 2,cdi 26 [1,1,1,1,1,1]]
noncomputable def Wune:AM:=⟨frm 26 129 (tX (tX (tX (tY (.int .i64 j)) tZ) tZ) (tX (tW (tY (.int .i64 j2)) sl tZ) (tY sl2))) [cdi 26 [1,1,1,1,1,0,1,0,0,1,0,0,1,1],.inBlock 3,cdi 26 [1,1,1,1,1,0,1,0,0,1,1],ili 26 [1,1,1,1,1,0,1,0,0],.inBlock 2,cdi 26 [1,1,1,1,1,1]],rest,⟨O,N,G⟩⟩
noncomputable def zeJ:AFrame:=frm 26 129 (tX (tX (tX (tW tZ (.int .i64 j) (tX (tX (tY (.ptr i1c i2c i3c)) tZ) tZ)) (tX (tX (tX (tY (.bool (decide (j2<z1c)))) tZ) tZ) (tX (tX (tY (.int .i64 j)) tZ) tZ))) (tX (tX (tX (tX (tY sl2) tZ) tZ) (tX (tX (tY (.str lrq0)) tZ) tZ)) (tX (tX (tX (tY sl2) tZ) tZ) (tX (tX (tY s2c) tZ) tZ)))) (tX (tW (tW (tX (tX (tY (.int .i64 j2)) tZ) tZ) (.int .i64 j2) (tX (tX (tY s1c) tZ) tZ)) sl (tX (tX (tX (tY (.bool true)) tZ) tZ) (tX (tX (tY (.ptr i4c i5c i6c)) tZ) tZ))) (tW (tX (tX (tX (tY (.int .i64 z1c)) tZ) tZ) (tX (tX (tY sl) tZ) tZ)) sl2 (tX (tX (tX (tY (.int .i64 j2)) tZ) tZ) tZ)))) [.drw (rg P (26:FuncId) [1,1,1,1,1,0,1,0,0,1,0,0,1,0,0,0,0,0]) [14,15,16] [9,13,12,11,10,8,7,6,5,4,3,2,1,0],cdi 26 [1,1,1,1,1,0,1,0,0,1,0,0,1,0,0,0,0,1],cdi 26 [1,1,1,1,1,0,1,0,0,1,0,0,1,0,0,0,1],ili 26 [1,1,1,1,1,0,1,0,0,1,0,0,1,0,0,0],.inBlock 4,cdi 26 [1,1,1,1,1,0,1,0,0,1,0,0,1,1],.inBlock 3,cdi 26 [1,1,1,1,1,0,1,0,0,1,1],ili 26 [1,1,1,1,1,0,1,0,0],.inBlock 2,cdi 26 [1,1,1,1,1,1]]
noncomputable def zah:AFrame:=frm 26 129 (tX (tX (tX (tW tZ (.int .i64 j) (tX (tX (tY (.ptr i1c i2c i3c)) tZ) tZ)) (tX (tX (tX (tY (.bool (decide (j2<z1c)))) tZ) tZ) (tX (tX (tY (.int .i64 j)) tZ) tZ))) (tX (tX (tX (tX (tY sl2) tZ) tZ) (tX (tX (tY (.str lrq0)) tZ) tZ)) (tX (tX (tX (tY sl2) tZ) tZ) (tX (tX (tY s2c) tZ) tZ)))) (tX (tW (tW (tX (tX (tY (.int .i64 j2)) tZ) tZ) (.int .i64 j2) (tX (tX (tY s1c) tZ) tZ)) sl (tX (tX (tX (tY (.bool true)) tZ) tZ) (tX (tX (tY (.ptr i4c i5c i6c)) tZ) tZ))) (tW (tX (tX (tX (tY (.int .i64 z1c)) tZ) tZ) (tX (tX (tY sl) tZ) tZ)) sl2 (tX (tX (tX (tY (.int .i64 j2)) tZ) tZ) (tX (tX (tY (.str lrq1)) tZ) tZ))))) [.drw (rg P (26:FuncId) [1,1,1,1,1,0,1,0,0,1,0,0,1,0,0,0,0,0]) [15,16] [14,9,13,12,11,10,8,7,6,5,4,3,2,1,0],cdi 26 [1,1,1,1,1,0,1,0,0,1,0,0,1,0,0,0,0,1],cdi 26 [1,1,1,1,1,0,1,0,0,1,0,0,1,0,0,0,1],ili 26 [1,1,1,1,1,0,1,0,0,1,0,0,1,0,0,0],.inBlock 4,cdi 26 [1,1,1,1,1,0,1,0,0,1,0,0,1,1],.inBlock 3,cdi 26 [1,1,1,1,1,0,1,0,0,1,1],ili 26 [1,1,1,1,1,0,1,0,0],.inBlock 2,cdi 26 [1,1,1,1,1,1]]
noncomputable def zph:AFrame:=frm 26 129 (tX (tX (tX (tW (tX (tX tZ (tY (.ptr i4 i5 i6))) tZ) (.int .i64 j) (tX tZ (tX (tY (.bool true)) tZ))) (tX (tX tZ (tX (tY (.int .i64 j2)) tZ)) (tX tZ (tX (tY s1) tZ)))) (tX (tX tZ (tX tZ (tX (tY (.int .i64 j2)) tZ))) (tX (tX tZ (tX (tY (.int .i64 z1)) tZ)) (tX tZ (tX (tY sl) tZ))))) (tX (tW (tW (tX (tX tZ (tY s2)) tZ) (.int .i64 j2) (tX tZ (tX (tY sl2) tZ))) sl (tX (tX tZ (tX (tY sl2) tZ)) tZ)) (tW (tX tZ (tX tZ (tX (tY (.ptr i1 i2 i3)) tZ))) sl2 (tX (tX tZ (tX (tY (.bool (decide (j2<z1)))) tZ)) (tX tZ (tX (tY (.int .i64 j)) tZ)))))) [.drw (rg P 26 [1,1,1,1,1,0,1,0,0,1,0,0,1,1,0,0]) [9,14,15,16] [13,12,11,10,8,7,6,5,4,3,2,1,0],cdi 26 [1,1,1,1,1,0,1,0,0,1,0,0,1,1,0,1],cdi 26 [1,1,1,1,1,0,1,0,0,1,0,0,1,1,1],.inBlock 3,cdi 26 [1,1,1,1,1,0,1,0,0,1,1],ili 26 [1,1,1,1,1,0,1,0,0],.inBlock 2,cdi 26 [1,1,1,1,1,1]]
noncomputable def Wunf:AM:=⟨frm 26 129 (tX (tX (tX (tY (.int .i64 j)) tZ) tZ) (tX (tW (tY (.int .i64 j2)) sl tZ) (tY sl2))) [cdi 26 [1,1,1,1,1,0,1,0,0,1,0,0,1,1,1],.inBlock 3,cdi 26 [1,1,1,1,1,0,1,0,0,1,1],ili 26 [1,1,1,1,1,0,1,0,0],.inBlock 2,cdi 26 [1,1,1,1,1,1]],rest,⟨O,N,G⟩⟩
noncomputable def zfS:AFrame:=frm 26 129 (tX (tX (tX (tW (tX (tX tZ (tY (.ptr i4c i5c i6c))) tZ) (.int .i64 j) (tX tZ (tX (tY (.bool true)) tZ))) (tX (tX tZ (tX (tY (.int .i64 j2)) tZ)) (tX tZ (tX (tY s1c) tZ)))) (tX (tX tZ (tX tZ (tX (tY (.int .i64 j2)) tZ))) (tX (tX tZ (tX (tY (.int .i64 z1c)) tZ)) (tX tZ (tX (tY sl) tZ))))) (tX (tW (tW (tX (tX tZ (tY s2c)) tZ) (.int .i64 j2) (tX tZ (tX (tY sl2) tZ))) sl (tX (tX tZ (tX (tY sl2) tZ)) (tX tZ (tX (tY (.str lrq0)) tZ)))) (tW (tX tZ (tX tZ (tX (tY (.ptr i1c i2c i3c)) tZ))) sl2 (tX (tX tZ (tX (tY (.bool (decide (j2<z1c)))) tZ)) (tX tZ (tX (tY (.int .i64 j)) tZ)))))) [.drw (rg P (26:FuncId) [1,1,1,1,1,0,1,0,0,1,0,0,1,1,0,0]) [14,15,16] [9,13,12,11,10,8,7,6,5,4,3,2,1,0],cdi 26 [1,1,1,1,1,0,1,0,0,1,0,0,1,1,0,1],cdi 26 [1,1,1,1,1,0,1,0,0,1,0,0,1,1,1],.inBlock 3,cdi 26 [1,1,1,1,1,0,1,0,0,1,1],ili 26 [1,1,1,1,1,0,1,0,0],.inBlock 2,cdi 26 [1,1,1,1,1,1]]
noncomputable def zpw:AFrame:=frm 26 129 (tX (tX tZ (tX tZ (tX tZ (tX tZ (tX tZ (tY (.ptr N 0 0))))))) tZ) [opi 26 [1,1,1,1,1,1,1,0] 3,cdi 26 [1,0,1,0,1]]
end
section
variable {R:AV→AHeap→Prop} {keep N q i1c i2c i3c i4c i5c i6c Nc:Nat} {f0:FuncId} {rest:List AFrame} {O:T AObj} {sa sl sa2 sl2 s1c s2c prq0:AV} {G:T (T AV)} {K:AM→Prop} {td:List AItem} {blq0 blq2:Bool} {j k2 j2 z1c crq0:Int} {lrq0 lrq1:List UInt8}
theorem t_uni:(∃ (z1:Int),(lN O N G 33 sa z1)∧(((z1==(0:Int)))=true→(K (AM.mk (RF 26 129 (tX (tX (tY (.int .i64 2)) tZ) (tY .nilp)) [cdi 26 [1,0,1,0,1],cdi 26 [1,1]]) rest ⟨O,N,G⟩)))∧(((z1==(0:Int)))=false→(K (AM.mk (enF 62 [sa]) ((zti sa)::rest) ⟨O,N,G⟩))))=OT f0 R keep K (.ex fun z1:Int=>(.seq [.run 9,.hopn (.int .i64 z1) O (N),.run 2] (.fork 13 (.seq [.run 12,.keep [2,3]] .fin) (.seq [.run 1,.keep [0,13,14],.run 1] .fin)))) ((AM.mk (enF 26 [sa]) rest ⟨O,N,G⟩)):=by kernel_rfl
theorem zlZ:((((!blq0))=true→(K (AM.mk (RF 26 129 (tX (tX (tY (.int .i64 2)) tZ) (tY .nilp)) [cdi 62 [1,0,1,0,0,1,0,0,1,0,1],cdi 26 [1,1]]) rest ⟨O,N,G⟩)))∧(((!blq0))=false→(K (zrt sa 0 (.nils 0 0) rest O N G))))=OT f0 R keep K (.seq [.run 4] (.fork 17 (.seq [.run 7,.keep [2,3]] .fin) (.seq [.run 13,.keep [0,4,5]] .fin))) ((AM.mk (RF 62 16 (tX tZ (tY (.bool blq0))) td) ((zti sa)::rest) ⟨O,N,G⟩)):=by kernel_rfl
theorem zoh:(∃ (z1:Int),(lN O N G 33 sa z1)∧((decide (j<z1))=true→(∃ (i1:Nat) (i2:Nat) (i3:Nat),(iX 33 sa j i1 i2 i3)∧(lR O N G i1 i2 i3 (.ptr q 0 0))∧(lC O N G q 0 (.int .i64 k2))∧(((k2==(1:Int)))=true→(∃ (O1:T AObj),(T.set ((some (.cells (tW (tW (tY (.nils 0 0)) (.str []) tZ) (.int .i64 1) (tW (tY .nilp) (.nils 0 0) tZ)) 5 44 0 0 1 0 false .leaf))) (O) (N)=O1)∧K (AM.mk (RF 26 129 (tX (tX (tY (.int .i64 0)) tZ) (tY (.ptr N 0 0))) [cdi 26 [1,0,1,0,1],cdi 26 [1,1,1,0,1,0,0,1,0,0,1],.inBlock 1,cdi 26 [1,1,1,0,1,0,0,1,1],ili 26 [1,1,1,0,1,0,0],.inBlock 0,cdi 26 [1,1,1,1]]) rest ⟨O1,N+1,G⟩)))∧(((k2==(1:Int)))=false→(∃ (i4:Nat) (i5:Nat) (i6:Nat),(iX 33 sa j i4 i5 i6)∧(lR O N G i4 i5 i6 (.ptr q 0 0))∧(lC O N G q 0 (.int .i64 k2))∧(((k2==(9:Int)))=true→(∃ (i7:Nat) (i8:Nat) (i9:Nat) (s1:AV) (O1:T AObj) (N1:Nat),(iX 33 sa j i7 i8 i9)∧(lR O N G i7 i8 i9 (.ptr q 0 0))∧(lC O N G q 3 sa2)∧(zi P (⟨O,N,G⟩) (Builtin.append) ((some 33)) ((some 33)) ([sl,sa2])=(some (.val s1 ⟨O1,N1,G⟩)))∧K (zrt sa (IntKind.i64.wrap (j+(1:Int))) s1 rest O1 N1 G)))∧(((k2==(9:Int)))=false→(∃ (i7:Nat) (i8:Nat) (i9:Nat) (O1:T AObj) (s1:AV) (O2:T AObj) (N1:Nat),(iX 33 sa j i7 i8 i9)∧(lR O N G i7 i8 i9 (.ptr q 0 0))∧(zg P (⟨O,N,G⟩) (33) (1) ([(0,.ptr q 0 0)])=(some (.slc N 0 0 1 1,⟨O1,N+1,G⟩)))∧(zi P (⟨O1,N+1,G⟩) (Builtin.append) ((some 33)) ((some 33)) ([sl,.slc N 0 0 1 1])=(some (.val s1 ⟨O2,N1,G⟩)))∧K (zrt sa (IntKind.i64.wrap (j+(1:Int))) s1 rest O2 N1 G)))))))∧((decide (j<z1))=false→(K (zrb 0 sl (.nils 0 0) rest O N G))))=OT f0 R keep K (.ex fun z1:Int=>(.seq [.run 5,.hopn (.int .i64 z1) O (N),.run 2] (.fork 21 (.ex fun i1:Nat=>(.ex fun i2:Nat=>(.ex fun i3:Nat=>(.seq [.run 9,.hopn (.ptr i1 i2 i3) O (N),.hop (.ptr q 0 0) O,.run 2,.hop (.int .i64 k2) O,.run 2] (.fork 31 (.ex fun O1:T AObj=>(.seq [.run 4,.hop (.nilp) O1,.run 4,.keep [2,3]] .fin)) (.ex fun i4:Nat=>(.ex fun i5:Nat=>(.ex fun i6:Nat=>(.seq [.run 6,.hopn (.ptr i4 i5 i6) O (N),.hop (.ptr q 0 0) O,.run 2,.hop (.int .i64 k2) O,.run 2] (.fork 41 (.ex fun i7:Nat=>(.ex fun i8:Nat=>(.ex fun i9:Nat=>(.ex fun s1:AV=>(.ex fun O1:T AObj=>(.ex fun N1:Nat=>(.seq [.run 5,.hopn (.ptr i7 i8 i9) O (N),.hop (.ptr q 0 0) O,.run 2,.hop (sa2) O,.hopn (s1) O1 (N1),.run 9,.keep [0,4,5]] .fin))))))) (.ex fun i7:Nat=>(.ex fun i8:Nat=>(.ex fun i9:Nat=>(.ex fun O1:T AObj=>(.ex fun s1:AV=>(.ex fun O2:T AObj=>(.ex fun N1:Nat=>(.seq [.run 5,.hopn (.ptr i7 i8 i9) O (N),.hop (.ptr q 0 0) O,.hopn (.slc N 0 0 1 1) O1 (N+1),.hopn (s1) O2 (N1),.run 9,.keep [0,4,5]] .fin)))))))))))))))))) (.seq [.run 13,.keep [4,6,7]] .fin)))) ((zrt sa j sl rest O N G)):=by kernel_rfl
theorem zo0:(∃ (z1:Int),(lN O N G 33 sl z1)∧((decide (j<z1))=true→(K (Wunc j 0 sl sl2 rest O N G)))∧((decide (j<z1))=false→(K (Wund sl2 rest O N G))))=OT f0 R keep K (.ex fun z1:Int=>(.seq [.run 5,.hopn (.int .i64 z1) O (N),.run 2] (.fork 61 (.seq [.run 11,.keep [4,6,7,8]] .fin) (.seq [.run 2,.keep [6]] .fin)))) ((zrb j sl sl2 rest O N G)):=by kernel_rfl
theorem zoi:(∃ (z1:Int),(lN O N G 33 sl2 z1)∧((decide (j2<z1))=true→(∃ (i1:Nat) (i2:Nat) (i3:Nat) (s1:AV) (i4:Nat) (i5:Nat) (i6:Nat) (s2:AV),(iX 33 sl2 j2 i1 i2 i3)∧(lR O N G i1 i2 i3 s1)∧(iX 33 sl j i4 i5 i6)∧(lR O N G i4 i5 i6 s2)∧K (AM.mk (enF 48 [s1]) ((zoL j j2 sl sl2 i1 i2 i3 i4 i5 i6 s1 s2 z1)::rest) ⟨O,N,G⟩)))∧((decide (j2<z1))=false→(K (Wune j j2 sl sl2 rest O N G))))=OT f0 R keep K (.ex fun z1:Int=>(.seq [.run 5,.hopn (.int .i64 z1) O (N),.run 2] (.fork 68 (.ex fun i1:Nat=>(.ex fun i2:Nat=>(.ex fun i3:Nat=>(.ex fun s1:AV=>(.ex fun i4:Nat=>(.ex fun i5:Nat=>(.ex fun i6:Nat=>(.ex fun s2:AV=>(.seq [.run 2,.hopn (.ptr i1 i2 i3) O (N),.hop (s1) O,.run 2,.hopn (.ptr i4 i5 i6) O (N),.hop (s2) O,.run 1] .fin))))))))) (.seq [.run 15,.keep [4,6,7,8]] .fin)))) ((Wunc j j2 sl sl2 rest O N G)):=by kernel_rfl
theorem zjw:((True)∧(lR O N G i4c i5c i6c s2c)∧(okD 300 s2c=true)∧K (AM.mk (enF 48 [s2c]) ((zeJ j j2 sl sl2 lrq0 i1c i2c i3c i4c i5c i6c s1c s2c z1c)::rest) ⟨O,N,G⟩))=OT f0 R keep K (.seq [.hret [.nilp],.run 1] .fin) ((AM.mk (RF 48 146 (tX tZ (tY (.str lrq0))) td) ((zoL j j2 sl sl2 i1c i2c i3c i4c i5c i6c s1c s2c z1c)::rest) ⟨O,N,G⟩)):=by kernel_rfl
theorem zei:(K (AM.mk (enF 64 [.str lrq0,.str lrq1]) ((zah j j2 sl sl2 lrq0 lrq1 i1c i2c i3c i4c i5c i6c s1c s2c z1c)::rest) ⟨O,N,G⟩))=OT f0 R keep K (.seq [.run 2] .fin) ((AM.mk (RF 48 146 (tX tZ (tY (.str lrq1))) td) ((zeJ j j2 sl sl2 lrq0 i1c i2c i3c i4c i5c i6c s1c s2c z1c)::rest) ⟨O,N,G⟩)):=by kernel_rfl
theorem zaI:(((blq2)=true→(K (Wunc j (IntKind.i64.wrap (j2+(1:Int))) sl sl2 rest O N G)))∧((blq2)=false→(K (Wune j j2 sl sl2 rest O N G))))=OT f0 R keep K (.seq [.run 3] (.fork 80 (.seq [.run 10,.keep [4,6,7,8]] .fin) (.seq [.run 2,.keep [4,6,7,8]] .fin))) ((AM.mk (RF 64 37 (tX tZ (tX (tY (.bool blq2)) tZ)) td) ((zah j j2 sl sl2 lrq0 lrq1 i1c i2c i3c i4c i5c i6c s1c s2c z1c)::rest) ⟨O,N,G⟩)):=by kernel_rfl
theorem zoR:(∃ (z1:Int),(lN O N G 33 sl2 z1)∧((decide (j2<z1))=true→(∃ (i1:Nat) (i2:Nat) (i3:Nat) (s1:AV) (i4:Nat) (i5:Nat) (i6:Nat) (s2:AV),(iX 33 sl2 j2 i1 i2 i3)∧(lR O N G i1 i2 i3 s1)∧(iX 33 sl j i4 i5 i6)∧(lR O N G i4 i5 i6 s2)∧K (AM.mk (enF 48 [s1]) ((zph j j2 sl sl2 i1 i2 i3 i4 i5 i6 s1 s2 z1)::rest) ⟨O,N,G⟩)))∧((decide (j2<z1))=false→(K (Wunf j j2 sl sl2 rest O N G))))=OT f0 R keep K (.ex fun z1:Int=>(.seq [.run 5,.hopn (.int .i64 z1) O (N),.run 2] (.fork 87 (.ex fun i1:Nat=>(.ex fun i2:Nat=>(.ex fun i3:Nat=>(.ex fun s1:AV=>(.ex fun i4:Nat=>(.ex fun i5:Nat=>(.ex fun i6:Nat=>(.ex fun s2:AV=>(.seq [.run 2,.hopn (.ptr i1 i2 i3) O (N),.hop (s1) O,.run 2,.hopn (.ptr i4 i5 i6) O (N),.hop (s2) O,.run 1] .fin))))))))) (.seq [.run 15,.keep [4,6,7,8]] .fin)))) ((Wune j j2 sl sl2 rest O N G)):=by kernel_rfl
theorem zjC:((True)∧(lR O N G i4c i5c i6c s2c)∧(okD 300 s2c=true)∧K (AM.mk (enF 48 [s2c]) ((zfS j j2 sl sl2 lrq0 i1c i2c i3c i4c i5c i6c s1c s2c z1c)::rest) ⟨O,N,G⟩))=OT f0 R keep K (.seq [.hret [.nilp],.run 1] .fin) ((AM.mk (RF 48 146 (tX tZ (tY (.str lrq0))) td) ((zph j j2 sl sl2 i1c i2c i3c i4c i5c i6c s1c s2c z1c)::rest) ⟨O,N,G⟩)):=by kernel_rfl
theorem zdm:((((lrq0==lrq1))=true→(K (zrb (IntKind.i64.wrap (j+(1:Int))) sl sl2 rest O N G)))∧(((lrq0==lrq1))=false→(K (Wunf j j2 sl sl2 rest O N G))))=OT f0 R keep K (.seq [.run 4] (.fork 99 (.seq [.run 8,.keep [4,6,7]] .fin) (.seq [.run 2,.keep [4,6,7,8]] .fin))) ((AM.mk (RF 48 146 (tX tZ (tY (.str lrq1))) td) ((zfS j j2 sl sl2 lrq0 i1c i2c i3c i4c i5c i6c s1c s2c z1c)::rest) ⟨O,N,G⟩)):=by kernel_rfl
theorem zsb:(∃ (s1:AV) (s2:AV) (O1:T AObj) (N1:Nat) (i1:Nat) (i2:Nat) (i3:Nat) (s3:AV) (O2:T AObj) (s4:AV) (O3:T AObj) (N2:Nat) (s5:AV) (s6:AV) (O4:T AObj) (N3:Nat),(zN P (⟨O,N,G⟩) (33) (sl2) (none) ((some j2)) (none)=(some s1))∧(zi P (⟨O,N,G⟩) (Builtin.append) ((some 33)) ((some 33)) ([.nils 0 0,s1])=(some (.val s2 ⟨O1,N1,G⟩)))∧(iX 33 sl j i1 i2 i3)∧(lR O1 N1 G i1 i2 i3 s3)∧(zg P (⟨O1,N1,G⟩) (33) (1) ([(0,s3)])=(some (.slc N1 0 0 1 1,⟨O2,N1+1,G⟩)))∧(zi P (⟨O2,N1+1,G⟩) (Builtin.append) ((some 33)) ((some 33)) ([s2,.slc N1 0 0 1 1])=(some (.val s4 ⟨O3,N2,G⟩)))∧(zN P (⟨O3,N2,G⟩) (33) (sl2) ((some j2)) (none) (none)=(some s5))∧(zi P (⟨O3,N2,G⟩) (Builtin.append) ((some 33)) ((some 33)) ([s4,s5])=(some (.val s6 ⟨O4,N3,G⟩)))∧K (zrb (IntKind.i64.wrap (j+(1:Int))) sl s6 rest O4 N3 G))=OT f0 R keep K (.ex fun s1:AV=>(.ex fun s2:AV=>(.ex fun O1:T AObj=>(.ex fun N1:Nat=>(.ex fun i1:Nat=>(.ex fun i2:Nat=>(.ex fun i3:Nat=>(.ex fun s3:AV=>(.ex fun O2:T AObj=>(.ex fun s4:AV=>(.ex fun O3:T AObj=>(.ex fun N2:Nat=>(.ex fun s5:AV=>(.ex fun s6:AV=>(.ex fun O4:T AObj=>(.ex fun N3:Nat=>(.seq [.run 9,.hop (s1) O,.hopn (s2) O1 (N1),.run 7,.hopn (.ptr i1 i2 i3) O1 (N1),.hop (s3) O1,.hopn (.slc N1 0 0 1 1) O2 (N1+1),.hopn (s4) O3 (N2),.run 6,.hop (s5) O3,.hopn (s6) O4 (N3),.run 9,.keep [4,6,7]] .fin))))))))))))))))) ((Wunf j j2 sl sl2 rest O N G)):=by kernel_rfl
theorem zpc:(∃ (z1:Int),(lN O N G 33 sl2 z1)∧(((z1==(1:Int)))=true→(∃ (i1:Nat) (i2:Nat) (i3:Nat) (s1:AV),(iX 33 sl2 0 i1 i2 i3)∧(lR O N G i1 i2 i3 s1)∧K (AM.mk (RF 26 129 (tX (tX (tY (.int .i64 0)) tZ) (tY s1)) [cdi 26 [1,0,1,0,1],cdi 26 [1,1,1,1,1,1,1]]) rest ⟨O,N,G⟩)))∧(((z1==(1:Int)))=false→(∃ (O1:T AObj),(qa P (44) ([(0,.int .i64 9),(3,sl2)])=(some (.agg [.int .i64 9,.str [],.nils 0 0,sl2,.nilp])))∧((Nat.beq (5) (AV.agg [AV.int IntKind.i64 (Int.ofNat (9)),AV.str [],AV.nils (0) (0),sl2,AV.nilp]).cells.length&&(AV.agg [AV.int IntKind.i64 (Int.ofNat (9)),AV.str [],AV.nils (0) (0),sl2,AV.nilp]).cells.all AV.one)=true∧T.set (some (AObj.cells (zd T.leaf 0 (AV.agg [AV.int IntKind.i64 (Int.ofNat (9)),AV.str [],AV.nils (0) (0),sl2,AV.nilp]).cells) (AV.agg [AV.int IntKind.i64 (Int.ofNat (9)),AV.str [],AV.nils (0) (0),sl2,AV.nilp]).cells.length 44 0 0 1 0 false T.leaf)) (⟨O,N,G⟩:AHeap).objs N=O1)∧K (AM.mk (enF 65 [.ptr N 0 0]) ((zpw N)::rest) ⟨O1,N+1,G⟩))))=OT f0 R keep K (.ex fun z1:Int=>(.seq [.run 4,.hopn (.int .i64 z1) O (N),.run 2] (.fork 119 (.ex fun i1:Nat=>(.ex fun i2:Nat=>(.ex fun i3:Nat=>(.ex fun s1:AV=>(.seq [.run 4,.hopn (.ptr i1 i2 i3) O (N),.hop (s1) O,.run 4,.keep [2,3]] .fin))))) (.ex fun O1:T AObj=>(.seq [.run 5,.hopn (.agg [.int .i64 9,.str [],.nils 0 0,sl2,.nilp]) O (N),.hopn (.nilp) O1 (N),.keep [125],.run 1] .fin))))) ((Wund sl2 rest O N G)):=by kernel_rfl
theorem zc4:(K (AM.mk (RF 26 129 (tX (tX (tY (.int .i64 crq0)) tZ) (tY prq0)) [cdi 26 [1,0,1,0,1]]) rest ⟨O,N,G⟩))=OT f0 R keep K (.seq [.run 7,.keep [2,3]] .fin) ((AM.mk (RF 65 8 (tX (tX (tY (.int .i64 crq0)) tZ) (tY prq0)) td) ((zpw Nc)::rest) ⟨O,N,G⟩)):=by kernel_rfl
end
variable {O O':T AObj} {N:Nat} {G:T (T AV)}
theorem bld9 {s:AV}(h:AV.one s=true):qa P 44 [(0,.int .i64 9),(3,s)]=some (.agg [.int .i64 9,.str [],.nils 0 0,s,.nilp]):=by
 cases s <;> first | (cases h; done) | kernel_rfl
theorem zdu {w z:Ty}(h:okT w=true∧cnt w≤60)(hz:z∈xq w):okT z=true∧cnt z≤60:=by
 unfold xq at hz;split at hz
 ·cases w with
  | no=>cases hz
  | mk k nm ns aas r =>
   have hz':z∈aas:=hz;have:=xf hz';have h2:=h.2;rw [z9] at h2;exact ⟨(xG h.1).2.1 z hz',by omega⟩
 ·rw [List.mem_singleton] at hz;rw [hz];exact h
theorem zmO {ts:List Ty}{ps:List (Option Nat)}{sa:AV}{hi:Nat}{mk:Nat→Prop}(hs:SV O 1 pE 0 hi ps sa)(hl:ps.length=ts.length)(hm:ts.length<10000)(ht:∀ (j:Nat) (x:Ty) (p:Option Nat),ts[j]?=some x→ps[j]?=some p→Tra O hi mk x p)(hN:hi≤N)(hmN:∀ j,mk j→j<N){keep:Nat}{f0:FuncId}{Q:AV→AHeap→Prop}{rest:List AFrame}
 (hK:∀ O' N' td p',Ext O N O' N'→Tra O' N' mk (vh ts).2 p'→Goal P keep f0 Q (AM.mk (RF 26 129 (tX (tX (tY (.int .i64 (vh ts).1)) tZ) (tY (pv p'))) td) rest ⟨O',N',G⟩)):Goal P keep f0 Q (AM.mk (enF 26 [sa]) rest ⟨O,N,G⟩):=by
 have bad:vh ts=(2,.no)→∀ O' N' td,Ext O N O' N'→Goal P keep f0 Q (AM.mk (RF 26 129 (tX (tX (tY (.int .i64 2)) tZ) (tY .nilp)) td) rest ⟨O',N',G⟩):=fun e O' N' td ex=>by
  have:=hK O' N' td none ex (by rw [e]; exact Tra.nil);rw [e] at this;exact this
 refine ot t_uni ⟨_,hs.len pSl _ _,fun hc30=>?_,fun hc30=>?_⟩
 ·
  exact bad (by unfold vh; rw [if_neg (fun h=>h.1 (List.eq_nil_of_length_eq_zero (by have:=eq_of_beq hc30; omega)))]) O N _ Ext.refl
 ·
  have hne:ts≠[]:=fun h=>by
   have:=beq_eq_false_iff_ne.1 hc30;rw [hl,h] at this;exact this rfl
  refine zhj hs hl (by omega) (fun j x p a b=>(ht j x p a b).tr) hN fun O1 N1 td1 ex1=>?_;have nn1:=ex1.1;refine ot zlZ ⟨fun hc18=>?_,fun hc18=>?_⟩
  ·
   exact bad (by unfold vh; rw [if_neg (fun h=>by rw [h.2] at hc18; cases hc18)]) O1 N1 _ ex1
  ·
   have hok:ts.all (fun x=>chk x==0)=true:=by simpa using hc18
   have oks:∀ z∈ts,okT z=true∧cnt z≤60:=fun z hz=>tp.chk_ok (by simpa using List.all_eq_true.1 hok z hz)
   have stD:∀ (os:List Ty) (rs:List (Option Nat)) (O2:T AObj) (N2:Nat) (sl2:AV),Ext O N O2 N2→SV O2 1 pE N N2 rs sl2→rs.length=os.length→(∀ (j:Nat) (x:Ty) (p:Option Nat),os[j]?=some x→rs[j]?=some p→Tra O hi mk x p)→os.length<1000000→(∀ z∈os,okT z=true∧cnt z≤60)→vh ts=zjU os→Goal P keep f0 Q (Wund sl2 rest O2 N2 G):=by
    intro os rs O2 N2 sl2 ex vo hrl hr hol hos eU;have nn:=ex.1
    by_cases h1:os.length=1
    ·have hd1:(((os.length:Nat):Int)==(1:Int))=true:=by rw [h1]; rfl
     obtain ⟨z,hz0,_⟩:=nth (l:=os) (j:=0) (by omega);obtain ⟨rp,hz,_⟩:=nth (l:=rs) (j:=0) (by omega);have e3:vh ts=(0,z):=by
      rw [eU];unfold zjU;rw [if_pos h1];cases os with
      | nil=>simp at h1
      | cons w l=>simp at hz0; rw [hz0]; rfl
     have:=fun td=>hK O2 N2 td rp ex (by rw [e3]; exact (hr 0 z rp hz0 hz).same (fun i h1 _=>ex.2 i (by omega)) (by omega));rw [e3] at this;obtain ⟨i1v,i2v,i3v,loI,hiI,eI,rdI,_⟩:=vo.at pSl pEn hz;refine ot zpc ⟨_,vo.lenE pSl hrl _ _,fkt (hd1) ?_⟩;exact ⟨_,_,_,(pv rp),eI,rdI.load rfl _ _,this _⟩
    ·have hd1:(((os.length:Nat):Int)==(1:Int))=false:=beq_eq_false_iff_ne.2 (by omega);obtain ⟨OB,eb,bB,fB⟩:=Obj.box (t:=44) [.int .i64 9,.str [],.nils 0 0,sl2,.nilp] (by simp only [List.all_cons,List.all_nil,Bool.and_true,vo.one]; rfl) O2 N2 5 rfl;refine ot zpc ⟨_,vo.lenE pSl hrl _ _,fkf (hd1) ?_⟩;refine ⟨_,bld9 vo.one,eb,?_⟩;have node:Tra OB (N2+1) mk (.mk 9 [] [] os .no) (some N2):=Tra.node (by omega) (fun h=>by have:=hmN _ h; omega) bB SV.nil (fun h=>absurd rfl h) (vo.keep (fun j _ hj=>fB j (by omega)) (Nat.zero_le _) (Nat.le_succ _)) (fun h hA=>by have:=(vo.sid_lt h).1; have:=hmN _ hA; omega) hrl (by omega) (by decide) (fun j x p a b=>(hr j x p a b).same (fun i h1 _=>(fB i (by omega)).trans (ex.2 i (by omega))) (by omega)) Tra.nil;have exB:Ext O N OB (N2+1):=ex.trans (Ext.new fB);refine ziz (p:=some N2) node.tr (fun h td=>?_) (fun h td=>?_)
     ·have e3:vh ts=(3,.no):=by rw [eU]; unfold zjU kv; rw [if_neg h1,if_pos h]
      have:=fun td=>hK OB (N2+1) td none exB (by rw [e3]; exact Tra.nil);rw [e3] at this;exact ot zc4 (this _)
     ·have e3:vh ts=(0,.mk 9 [] [] os .no):=by rw [eU]; unfold zjU kv; rw [if_neg h1,if_neg (by omega)]
      have:=fun td=>hK OB (N2+1) td (some N2) exB (by rw [e3]; exact node);rw [e3] at this;exact ot zc4 (this _)
   have stB:∀ (OF:T AObj) (NF:Nat) (fs:List Ty) (qs:List (Option Nat)) (sl:AV),Ext O N OF NF→SV OF 1 pE N NF qs sl→qs.length=fs.length→fs=ts.flatMap xq→(∀ z∈ts,kd z≠1)→(∀ (j:Nat) (x:Ty) (p:Option Nat),fs[j]?=some x→qs[j]?=some p→Tra O hi mk x p)→fs.length≤60*ts.length→Goal P keep f0 Q (zrb 0 sl (.nils 0 0) rest OF NF G):=by
    intro OF NF fs qs sl exF vF hq hfs hany hrF hfl;have okf:∀ z∈fs,okT z=true∧cnt z≤60:=fun z hz=>by
     rw [hfs,List.mem_flatMap] at hz;obtain ⟨w,hw,hz⟩:=hz;exact zdu (oks w hw) hz
    have eU:vh ts=zjU (zcj fs []):=by
     unfold vh;rw [if_pos ⟨hne,hok⟩,if_neg (fun h=>by obtain ⟨w,hw,h⟩:=List.any_eq_true.1 h; exact hany w hw (by simpa using h)),hfs]
    have loopB:∀ (k i:Nat) (O2:T AObj) (N2:Nat) (os:List Ty) (rs:List (Option Nat)) (sl2:AV),i+k=fs.length→Ext OF NF O2 N2→SV O2 1 pE N N2 rs sl2→rs.length=os.length→(∀ (j:Nat) (x:Ty) (p:Option Nat),os[j]?=some x→rs[j]?=some p→Tra O hi mk x p)→os.length≤i→(∀ z∈os,okT z=true∧cnt z≤60)→zcj fs []=zcj (fs.drop i) os→Goal P keep f0 Q (zrb ((i:Nat):Int) sl sl2 rest O2 N2 G):=by
     intro k
     induction k with
     | zero =>
      intro i O2 N2 os rs sl2 hk exB vo hrl hr hil hos hv;have nnB:=exB.1;have nnF:=exF.1;have ex:Ext O N O2 N2:=exF.trans exB;have vf:=vF.keep (O':=O2) (fun j _ hj=>exB.2 j hj) (Nat.le_refl _) nnB;rw [List.drop_of_length_le (by omega),ziu] at hv;rw [hv] at eU;have nx:=stD os rs O2 N2 sl2 ex vo hrl hr (by omega) hos eU;refine ot zo0 ⟨_,vf.lenE pSl hq _ _,fkf (decide_eq_false (by omega)) ?_⟩;exact nx
     | succ k ih0 =>
      intro i O2 N2 os rs sl2 hk exB vo hrl hr hil hos hv;have nnB:=exB.1;have nnF:=exF.1;have ex:Ext O N O2 N2:=exF.trans exB;have vf:=vF.keep (O':=O2) (fun j _ hj=>exB.2 j hj) (Nat.le_refl _) nnB;have ih:=fun i=>fun O3 N3 os rs sl2 h1 (h2:Ext O2 N2 O3 N3)=>ih0 i O3 N3 os rs sl2 h1 (exB.trans h2);obtain ⟨x,hx,hxm⟩:=nth (l:=fs) (j:=i) (by omega);obtain ⟨y,hy,_⟩:=nth (l:=qs) (j:=i) (by omega);have okx:=okf x hxm;have tx0:=hrF i x y hx hy;rw [zr hx,wF] at hv;have after:∀ (a:Nat) (O3:T AObj) (N3:Nat),Ext O2 N2 O3 N3→wn (fun z=>Op.bytesLess (wr z) (wr x)) os=a→Goal P keep f0 Q (Wune ((i:Nat):Int) ((a:Nat):Int) sl sl2 rest O3 N3 G):=by
       intro a O3 N3 ex3 hua;have nn3:=ex3.1;have hal:a≤os.length:=hua▸zb9;rw [hua] at hv;have vo3:=vo.keep (O':=O3) (fun j _ hj=>ex3.2 j (by omega)) (Nat.le_refl _) (Nat.le_refl _);have vf3:=vf.keep (O':=O3) (fun j _ hj=>ex3.2 j (by omega)) (Nat.le_refl _) (Nat.le_refl _);have low3:∀ j,j<N→O3.get j=O.get j:=fun j hj=>(ex3.2 j (by omega)).trans (ex.2 j hj);have insd:∀ (O3:T AObj) (N3:Nat),Ext O2 N2 O3 N3→(os[a]?).map wr≠some (wr x)→Goal P keep f0 Q (Wunf ((i:Nat):Int) ((a:Nat):Int) sl sl2 rest O3 N3 G):=by
        intro O3 N3 ex3 hne;have nn3:=ex3.1;have vo3:=vo.keep (O':=O3) (fun j _ hj=>ex3.2 j (by omega)) (Nat.le_refl _) (Nat.le_refl _);have vf3:=vf.keep (O':=O3) (fun j _ hj=>ex3.2 j (by omega)) (Nat.le_refl _) (Nat.le_refl _);rw [if_neg hne] at hv;obtain ⟨r1,r2,r3,lor,hir,eR,rdR,_⟩:=vf3.at pSl pEn hy;obtain ⟨s1,O4,N4,s2,O5,O6,N6,s3,s4,O7,N7,s5,a1,a2,a3,a4,a5,a6,g6,m1,m2,m3,f3,f5,f6⟩:=zbL pSl pEn vo3 (by omega) (a:=a) (by omega) y (zrf y) (by omega) G;have nx:=ih (i+1) O7 N7 (ins a x os) (ins a y rs) s5 (by omega) ⟨by omega,fun j hj=>(f6 j (by omega)).trans (ex3.2 j (by omega))⟩ ((g6.sv pEn).keep (fun _ _ _=>rfl) (by omega) (Nat.le_refl _)) (by rw [qh (by omega),qh (by omega)]; omega) (zlS hrl hal tx0 hr) (by rw [qh hal]; omega) (fun z hz=>(zae.1 hz).elim (fun h=>h▸okx) (hos z)) hv;rw [← zq (i:=i) (by omega)] at nx;exact ot zsb ⟨_,_,_,_,_,_,_,_,_,_,_,_,_,_,_,_,a1,a2,eR,(rdR.same (f3 _ (by omega))).load rfl _ _,a3,a4,a5,a6,nx⟩
       by_cases hla:a<os.length
       ·obtain ⟨z,hz,hzm⟩:=nth (l:=os) (j:=a) hla;obtain ⟨zp,hzp,_⟩:=nth (l:=rs) (j:=a) (by omega);refine ot zoR ⟨_,vo3.lenE pSl hrl _ _,fkt (decide_eq_true (by omega)) ?_⟩;obtain ⟨i1v,i2v,i3v,lo8,hi8,eA8,rd8,_⟩:=vo3.at pSl pEn hzp;obtain ⟨i4v,i5v,i6v,lo9,hi9,eA9,rd9,_⟩:=vf3.at pSl pEn hy;refine ⟨i1v,i2v,i3v,(pv zp),i4v,i5v,i6v,(pv y),eA8,rd8.load rfl _ _,eA9,rd9.load rfl _ _,?_⟩;have rdF:=rd9;have tz:=(hr _ _ _ hz hzp).tr.same (O':=O3) (fun j hj=>low3 j (by omega)) (Nat.le_refl _);refine ke (cnt z) z zp _ O3 N3 ⟨Nat.le_refl _,(hos z hzm).2⟩ (hos z hzm).1 tz (by omega) fun O4 N4 td4 ex4=>?_;have nn4:=ex4.1;have ty4:=tx0.tr.same (O':=O4) (fun j hj=>(ex4.2 j (by omega)).trans (low3 j (by omega))) (Nat.le_refl _);refine ot zjC ⟨trivial,(rdF.same (ex4.2 _ (by omega))).load rfl _ _,zan _,?_⟩;refine ke (cnt x) x y _ O4 N4 ⟨Nat.le_refl _,okx.2⟩ okx.1 ty4 (by omega) fun O5 N5 td5 ex5=>?_;have nn5:=ex5.1;refine ot zdm ⟨fun hc11=>?_,fun hc11=>?_⟩
        ·
         have he:=eq_of_beq hc11;rw [if_pos (by rw [hz,Option.map_some,he])] at hv;have ex5':=ex3.trans (ex4.trans ex5);have nx:=ih (i+1) O5 N5 os rs sl2 (by omega) ex5' (vo.keep (fun j _ hj=>ex5'.2 j (by omega)) (Nat.le_refl _) (by omega)) hrl hr (by omega) hos hv;rw [← zq (i:=i) (by omega)] at nx;exact nx
        ·
         have he:=beq_eq_false_iff_ne.1 hc11;exact insd O5 N5 (ex3.trans (ex4.trans ex5)) (by rw [hz,Option.map_some]; intro h; injection h with h; exact he h)
       ·skip
        refine ot zoR ⟨_,vo3.lenE pSl hrl _ _,fkf (decide_eq_false (by omega)) ?_⟩;exact insd O3 N3 ex3 (by rw [List.getElem?_eq_none (by omega)]; simp)
      have inner:∀ (k' a:Nat) (O3:T AObj) (N3:Nat),a+k'=os.length→Ext O2 N2 O3 N3→(∀ k,k<a→∃ z,os[k]?=some z∧Op.bytesLess (wr z) (wr x)=true)→Goal P keep f0 Q (Wunc ((i:Nat):Int) ((a:Nat):Int) sl sl2 rest O3 N3 G):=by
       intro k'
       induction k' with
       | zero =>
        intro a O3 N3 hk' ex3 hbel;have nn3:=ex3.1;have vo3:=vo.keep (O':=O3) (fun j _ hj=>ex3.2 j (by omega)) (Nat.le_refl _) (Nat.le_refl _);have nx:=after a O3 N3 ex3 (zbs hbel (.inl (by omega)));refine ot zoi ⟨_,vo3.lenE pSl hrl _ _,fkf (decide_eq_false (by omega)) ?_⟩;exact nx
       | succ k' ih' =>
        intro a O3 N3 hk' ex3 hbel;have nn3:=ex3.1;have vo3:=vo.keep (O':=O3) (fun j _ hj=>ex3.2 j (by omega)) (Nat.le_refl _) (Nat.le_refl _);have vf3:=vf.keep (O':=O3) (fun j _ hj=>ex3.2 j (by omega)) (Nat.le_refl _) (Nat.le_refl _);have low3:∀ j,j<N→O3.get j=O.get j:=fun j hj=>(ex3.2 j (by omega)).trans (ex.2 j hj);obtain ⟨z,hz,hzm⟩:=nth (l:=os) (j:=a) (by omega);obtain ⟨zp,hzp,_⟩:=nth (l:=rs) (j:=a) (by omega);refine ot zoi ⟨_,vo3.lenE pSl hrl _ _,fkt (decide_eq_true (by omega)) ?_⟩;obtain ⟨i1v,i2v,i3v,lo2,hi2,eA2,rd2,_⟩:=vo3.at pSl pEn hzp;obtain ⟨i4v,i5v,i6v,lo3,hi3,eA3,rd3,_⟩:=vf3.at pSl pEn hy;refine ⟨i1v,i2v,i3v,(pv zp),i4v,i5v,i6v,(pv y),eA2,rd2.load rfl _ _,eA3,rd3.load rfl _ _,?_⟩;have rdF:=rd3;have tz:=(hr _ _ _ hz hzp).tr.same (O':=O3) (fun j hj=>low3 j (by omega)) (Nat.le_refl _);refine ke (cnt z) z zp _ O3 N3 ⟨Nat.le_refl _,(hos z hzm).2⟩ (hos z hzm).1 tz (by omega) fun O4 N4 td4 ex4=>?_;have nn4:=ex4.1;have ty4:=tx0.tr.same (O':=O4) (fun j hj=>(ex4.2 j (by omega)).trans (low3 j (by omega))) (Nat.le_refl _);refine ot zjw ⟨trivial,(rdF.same (ex4.2 _ (by omega))).load rfl _ _,zan _,?_⟩;refine ke (cnt x) x y _ O4 N4 ⟨Nat.le_refl _,okx.2⟩ okx.1 ty4 (by omega) fun O5 N5 td5 ex5=>?_;have nn5:=ex5.1;refine ot zei ?_;have w1:=yf (hos z hzm).1 (hos z hzm).2;have w2:=yf okx.1 okx.2;refine ziq (wr z) (wr x) (by omega) (by omega) fun td6=>?_;refine ot zaI ⟨fun hc5=>?_,fun hc5=>?_⟩
        ·
         have nx:=ih' (a+1) O5 N5 (by omega) (ex3.trans (ex4.trans ex5)) (fun k hk=>by
          by_cases hka:k=a
          ·exact ⟨z,hka▸hz,hc5⟩
          ·exact hbel k (by omega))
         rw [← zq (i:=a) (by omega)] at nx;exact nx
        ·
         exact after a O5 N5 (ex3.trans (ex4.trans ex5)) (zbs hbel (.inr ⟨z,hz,hc5⟩))
      have nx:=inner os.length 0 O2 N2 (Nat.zero_add _) Ext.refl (fun k h=>absurd h (Nat.not_lt_zero _));refine ot zo0 ⟨_,vf.lenE pSl hq _ _,fkt (decide_eq_true (by omega)) ?_⟩;exact nx
    exact loopB fs.length 0 OF NF [] [] (.nils 0 0) (Nat.zero_add _) Ext.refl SV.nil rfl (fun j x p h=>by simp at h) (Nat.zero_le _) (fun z h=>by cases h) (by rw [List.drop_zero])
   have loopA:∀ (k i:Nat) (O2:T AObj) (N2:Nat) (fs:List Ty) (qs:List (Option Nat)) (sl:AV),i+k=ts.length→Ext O N O2 N2→GV O2 23 1 pE N N2 qs sl→qs.length=fs.length→fs=(ts.take i).flatMap xq→(∀ z∈ts.take i,kd z≠1) →
    (∀ (j:Nat) (x:Ty) (p:Option Nat),fs[j]?=some x→qs[j]?=some p→Tra O hi mk x p)→fs.length≤60*i→Goal P keep f0 Q (zrt sa ((i:Nat):Int) sl rest O2 N2 G):=by
    intro k
    induction k with
    | zero =>
     intro i O2 N2 fs qs sl hk ex gv hq hfs hany hr hfl;have nn:=ex.1;have hs2:=hs.keep (O':=O2) (fun j _ hj=>ex.2 j (by omega)) (Nat.le_refl 0) (Nat.le_refl hi);have hall:ts.take i=ts:=List.take_of_length_le (by omega);rw [hall] at hfs hany;have nx:=stB O2 N2 fs qs sl ex (gv.sv pEn) hq hfs hany hr (by omega);refine ot (zoh (q:=0) (k2:=0) (sa2:=.nilp)) ⟨_,hs2.lenE pSl hl _ _,fkf (decide_eq_false (by omega)) ?_⟩;exact nx
    | succ k ih =>
     intro i O2 N2 fs qs sl hk ex gv hq hfs hany hr hfl;have nn:=ex.1;have hNN:N≤N2:=nn;have hs2:=hs.keep (O':=O2) (fun j _ hj=>ex.2 j (by omega)) (Nat.le_refl 0) (Nat.le_refl hi);obtain ⟨x,hx,hxm⟩:=nth (l:=ts) (j:=i) (by omega);obtain ⟨y,hy,_⟩:=nth (l:=ps) (j:=i) (by omega);have tx0:=ht i x y hx hy;have okx:=oks x hxm;cases x with
     | no=>have:=okx.1; rw [xX] at this; cases this
     | mk kx nmx nsx asx rx =>
      obtain ⟨id,snx,sax,psx,qx,rfl,ix,imk,obx0,svn0,mn0,svx0,mx0,lx,lx6,ln6,rx8,tr9⟩:=Tra.inv tx0;have obx:=obx0.same (ex.2 id (by omega));have svx:=svx0.keep (O':=O2) (fun j _ hj=>ex.2 j (by omega)) (Nat.le_refl 0) (Nat.le_refl hi);have c60:=okx.2;rw [z9] at c60;have cl:=zho (l:=asx) (fun z hz=>zgH ((xG okx.1).2.1 z hz));refine ot (zoh (q:=id) (k2:=kx) (sa2:=sax)) ⟨_,hs2.lenE pSl hl _ _,fkt (decide_eq_true (by omega)) ?_⟩;obtain ⟨i1v,i2v,i3v,lo21,hi21,eA21,rd21,_⟩:=hs2.at pSl pEn hy;refine ⟨i1v,i2v,i3v,eA21,rd21.load rfl _ _,obx.ld 0 rfl,fun hc22=>?_,fun hc22=>?_⟩
      ·
       obtain ⟨O1v,e23,b23,f23⟩:=Obj.mk (c:=(tW (tW (tY (.nils 0 0)) (.str []) tZ) (.int .i64 1) (tW (tY .nilp) (.nils 0 0) tZ))) (el:=44) [(.int .i64 1),(.str []),(.nils 0 0),(.nils 0 0),.nilp] O2 N2 5 rfl (fun u hu=>by rcases u with _ | _ | _ | _ | _ | u <;> first | rfl | omega)
       have b24:=obx.same (f23 _ (by omega));refine ⟨O1v,e23,?_⟩;have tl:Tra O1v (N2+1) mk (.mk 1 [] [] [] .no) (some N2):=Tra.node (ps:=[]) (q:=none) (by omega) (fun h=>by have:=hmN _ h; omega) b23 SV.nil (fun h=>absurd rfl h) SV.nil (fun h=>absurd rfl h) rfl (by decide) (by decide) (fun j x p h=>by simp at h) Tra.nil;have e1:vh ts=(0,.mk 1 [] [] [] .no):=by
        unfold vh;rw [if_pos ⟨hne,hok⟩,if_pos (List.any_eq_true.2 ⟨_,hxm,by show (kx==1)=true; exact hc22⟩)]
       have:=fun td=>hK O1v (N2+1) td (some N2) (ex.trans (Ext.new f23)) (by rw [e1]; exact tl);rw [e1] at this;exact this _
      ·
       obtain ⟨i4v,i5v,i6v,lo25,hi25,eA25,rd25,_⟩:=hs2.at pSl pEn hy;refine ⟨i4v,i5v,i6v,eA25,rd25.load rfl _ _,obx.ld 0 rfl,fun hc26=>?_,fun hc26=>?_⟩
       ·
        obtain ⟨i7v,i8v,i9v,lo27,hi27,eA27,rd27,_⟩:=hs2.at pSl pEn hy;have hk1:kd (.mk kx nmx nsx asx rx)≠1:=by show ¬ kx=1; simpa using hc22
        have hx9:xq (.mk kx nmx nsx asx rx)=asx:=by unfold xq; rw [if_pos (by show kx=9; simpa using hc26)]; rfl
        obtain ⟨O3,N3,s3,ea,g3,m1,m2,f3,_⟩:=gv.app pSl pEn svx hNN (by rw [lx,hq]; omega) G;have low3:∀ j,j<N→O3.get j=O2.get j:=fun j hj=>f3 j (by omega) (fun h=>by have:=(gv.sid_lt h).1; omega);have nx:=ih (i+1) O3 N3 (fs++asx) (qs++psx) s3 (by omega) ⟨by omega,fun j hj=>(low3 j hj).trans (ex.2 j hj)⟩ g3 (by rw [List.length_append,List.length_append,hq,lx]) (by rw [jz hx,List.flatMap_append,← hfs,List.flatMap_cons,hx9]; simp) (fun z hz=>by rw [jz hx,List.mem_append,List.mem_singleton] at hz; exact hz.elim (hany z) (fun h=>by rw [h]; exact hk1)) (zgi hq hr (fun j x p a b=>(rx8 j x p a b))) (by rw [List.length_append]; have:=c60; omega);rw [← zq (i:=i) (by omega)] at nx;exact ⟨i7v,i8v,i9v,_,_,_,eA27,rd27.load rfl _ _,obx.ld 3 rfl,ea,nx⟩
       ·
        obtain ⟨i7v,i8v,i9v,lo28,hi28,eA28,rd28,_⟩:=hs2.at pSl pEn hy;have hk1:kd (.mk kx nmx nsx asx rx)≠1:=by show ¬ kx=1; simpa using hc22
        have hx9:xq (.mk kx nmx nsx asx rx)=[.mk kx nmx nsx asx rx]:=by unfold xq; rw [if_neg (by show ¬ kx=9; simpa using hc26)]
        obtain ⟨OL,el,vL,_,fL⟩:=kU pEn (some id) O2 N2 G (st:=33) (el:=23) (zrf (some id));have gvL:=gv.keep (O':=OL) (fun j h1 h2=>fL j (by omega)) (Nat.le_refl _) (Nat.le_succ N2);obtain ⟨O3,N3,s3,ea,g3,m1,m2,f3,_⟩:=gvL.app pSl pEn vL (by omega) (by rw [hq]; simp only [List.length_cons,List.length_nil]; omega) G;have low3:∀ j,j<N→O3.get j=O2.get j:=fun j hj=>(f3 j (by omega) (fun h=>by have:=(gv.sid_lt h).1; omega)).trans (fL j (by omega));have nx:=ih (i+1) O3 N3 (fs++[.mk kx nmx nsx asx rx]) (qs++[some id]) s3 (by omega) ⟨by omega,fun j hj=>(low3 j hj).trans (ex.2 j hj)⟩ g3 (by rw [List.length_append,List.length_append,hq]; rfl) (by rw [jz hx,List.flatMap_append,← hfs,List.flatMap_cons,hx9]; simp) (fun z hz=>by rw [jz hx,List.mem_append,List.mem_singleton] at hz; exact hz.elim (hany z) (fun h=>by rw [h]; exact hk1)) (zgi hq hr (fun j x p a b=>by rcases j with _ | j <;> simp at a b; subst a; subst b; exact tx0)) (by rw [List.length_append]; simp only [List.length_cons,List.length_nil]; omega);rw [← zq (i:=i) (by omega)] at nx;exact ⟨i7v,i8v,i9v,_,_,_,_,eA28,rd28.load rfl _ _,el,ea,nx⟩
   exact loopA ts.length 0 O1 N1 [] [] (.nils 0 0) (Nat.zero_add _) ex1 GV.nil rfl rfl (fun z hz=>by simp at hz) (fun j x p h=>by simp at h) (by simp)
end Go.Proofs.Ytcdigdplhlgcaaa.gx
end
section
set_option maxRecDepth 100000
set_option linter.unusedVariables false
set_option linter.unusedSectionVars false
namespace Go.Proofs.Ytcdigdplhlgcaaa.gx
open Go Ev tp
theorem zen:∀ {fs out:List Ty} {u:Ty},u∈zcj fs out→u∈out∨u∈fs
 | [],out,u,h=>.inl h
 | t::fs,out,u,h=>by
  rw [wF] at h;split at h
  ·exact (zen h).imp_right (List.mem_cons_of_mem _)
  ·rcases zen h with h | h
   ·rcases zae.1 h with h | h
    ·exact .inr (h▸List.mem_cons_self)
    ·exact .inl h
   ·exact .inr (List.mem_cons_of_mem _ h)
end Go.Proofs.Ytcdigdplhlgcaaa.gx
end
section
set_option maxRecDepth 100000
set_option linter.unusedVariables false
set_option linter.unusedSectionVars false
namespace Go.Proofs.Ytcdigdplhlgcaaa.gx
open Go Ev tp
variable {O O':T AObj} {N:Nat} {G:T (T AV)}
def AvS (A:Nat→Prop) (s:AV) (j:Nat):Prop:=A j∨(s≠.nils 0 0∧j=sid s)
theorem AvS.nil {A:Nat→Prop}{j:Nat}(h:AvS A (.nils 0 0) j):A j:=h.elim id fun h=>absurd rfl h.1
theorem zlU {A:Nat→Prop}{lo:Nat}{ts:List Ty}{ps:List (Option Nat)}{s:AV}{t:Ty}{p:Option Nat}(gv:GV O 23 1 pE lo N ps s)(hlo:lo≤N)(hl:ps.length=ts.length)(hn:ts.length<1000)(hr:∀ (j:Nat) (x:Ty) (p:Option Nat),ts[j]?=some x→ps[j]?=some p→Tra O N (AvS A s) x p)(tx:Tra O N (AvS A s) t p)(G:T (T AV)) :
 ∃ O1 s1 O2 N1,zg P ⟨O,N,G⟩ 33 1 [(0,pv p)]=some (.slc N 0 0 1 1,⟨O1,N+1,G⟩)∧zi P ⟨O1,N+1,G⟩ .append (some 33) (some 33) [s,.slc N 0 0 1 1]=some (.val s1 ⟨O2,N1,G⟩)∧GV O2 23 1 pE lo N1 (ps++[p]) s1∧N≤N1∧(∀ j,j<N→(s≠.nils 0 0→j≠sid s)→O2.get j=O.get j) ∧
  (∀ (j:Nat) (x:Ty) (q:Option Nat),(ts++[t])[j]?=some x→(ps++[p])[j]?=some q→Tra O2 N1 (AvS A s1) x q):=by
 obtain ⟨O1,e1,v1,_,f1⟩:=kU pEn p O N G (st:=33) (el:=23) (zrf p);have g1:=gv.keep (O':=O1) (fun j h1 h2=>f1 j (by omega)) (Nat.le_refl _) (Nat.le_succ N);obtain ⟨O2,N1,s1,e2,g2,n1,n2,f2,hs⟩:=g1.app pSl pEn v1 (by omega) (by rw [hl]; simp only [List.length_cons,List.length_nil]; omega) G;have lo2:∀ j,j<N→(s≠.nils 0 0→j≠sid s)→O2.get j=O.get j:=fun j hj hs=>(f2 j (by omega) hs).trans (f1 j (by omega));have mv:∀ {x:Ty} {q:Option Nat},Tra O N (AvS A s) x q→Tra O2 N1 (AvS A s1) x q:=fun h =>
  ((h.same (fun j hj hb=>lo2 j hj fun hs hj=>hb (.inr ⟨hs,hj⟩)) (Nat.le_refl _)).imp fun j hj hb=>by
   rcases hb with hb | ⟨h1,h2⟩
   ·exact .inl hb
   ·rcases hs with h | h | ⟨h3,h⟩
    ·exact absurd h h1
    ·omega
    ·exact .inr ⟨h3,by omega⟩).same (fun _ _ _=>rfl) (by omega)
 exact ⟨O1,s1,O2,N1,e1,e2,g2,by omega,lo2,zgi hl (fun j x y a b=>mv (hr j x y a b)) (fun j x y a b=>by
  rcases j with _ | j <;> simp at a b;subst a;subst b;exact mv tx)⟩
end Go.Proofs.Ytcdigdplhlgcaaa.gx
end
section
set_option maxRecDepth 100000
set_option linter.unusedVariables false
set_option linter.unusedSectionVars false
set_option linter.unusedSimpArgs false
namespace Go.Proofs.Ytcdigdplhlgcaaa.gx
open Go Ev tp
section
variable {R:AV→AHeap→Prop} {keep N mk Nc:Nat} {f0:FuncId} {rest:List AFrame} {O:T AObj} {e n crq0 j nn crq2 crq3:Int} {s1 sl2 prq0 prq1 prq2 s1c prq3 prq4:AV} {G:T (T AV)} {K:AM→Prop} {td:List AItem}
end
variable {O O':T AObj} {N:Nat} {G:T (T AV)}
theorem MKo.mk {hi mk:Nat}{an:Bool}{xs:List UInt8}{n2:Int}{sl:AV}(sv:SVe O hi xs sl)(hmk:hi≤mk)(f:Frm O O' mk)(ob:Obj O' mk [sl,.int .i64 n2,.bool an]):MKo O' hi mk xs n2 an :=
 ⟨sl,ob,sv.keep (fun j hj=>f j (by omega))⟩
end Go.Proofs.Ytcdigdplhlgcaaa.gx
end
section
set_option maxRecDepth 100000
set_option linter.unusedVariables false
set_option linter.unusedSectionVars false
set_option linter.unusedSimpArgs false
namespace Go.Proofs.Ytcdigdplhlgcaaa.gx
open Go Ev tp
section
variable (q:Nat) (crq0 k2:Int) (sa2 rp2:AV) (n j j2:Int) (mk:Nat) (prq0:AV) (crq1:Int) (prq1:AV) (z2:Int) (s1 s2 sn2 sl sl2:AV) (rest:List AFrame) (O:T AObj) (N:Nat) (G:T (T AV))
end
section
variable {R:AV→AHeap→Prop} {keep N q mk Nc:Nat} {f0:FuncId} {rest:List AFrame} {O:T AObj} {n j crq0 crq1 z2c k2 j2:Int} {G:T (T AV)} {K:AM→Prop} {sl sl2 sn2 sa2 prq0 prq1 prq2 rp2 s1c s2c:AV} {td:List AItem}
end
variable {O O':T AObj} {N:Nat} {G:T (T AV)}
theorem znS {p:Option Nat}:(pv p).cells=[pv p]:=by cases p <;> rfl
end Go.Proofs.Ytcdigdplhlgcaaa.gx
end
section
set_option maxRecDepth 100000
set_option linter.unusedVariables false
set_option linter.unusedSectionVars false
namespace Go.Proofs.Ytcdigdplhlgcaaa.gx
open Go Ev tp
theorem bi_of {n:Int}(h:(Lit.int .u8 n).wf=true):bi (UInt8.ofNat n.toNat)=n:=by
 have hb:0≤n∧n≤255:=by
  have:=bounds_u8 h;omega
 unfold bi;rw [UInt8.toNat_ofNat'];omega
theorem zbH {l:List Inp}{G:T (T AV)}{i:Nat}{x:Inp}(h:l[i]?=some x):(vZ l G).objs.get i=x.obj:=by
 show (v8 l 0 .leaf).get i=_;rw [kp,if_pos ⟨Nat.zero_le _,by have:=(List.getElem?_eq_some_iff.1 h).1; omega⟩,Nat.sub_zero,h];rfl
theorem znQ {xs:List UInt8}:∀ {k:Nat},(xs.flatMap bE)[k]?=xs[k]?.map fun c=>AV.int .u8 (bi c):=by
 induction xs with
 | nil=>intro k; simp
 | cons x xs ih =>
  intro k;rw [List.flatMap_cons];cases k with
  | zero=>rfl
  | succ k =>
   show ([AV.int .u8 (bi x)]++xs.flatMap bE)[k+1]?=_;rw [List.cons_append,List.nil_append,List.getElem?_cons_succ,List.getElem?_cons_succ];exact ih
theorem znd {w:World}{v:Value}(h:v=.slice none 0 0∨∃ (a:Addr) (len cap:Nat) (zs:List Int),v=.slice (some a) len cap∧len≤cap∧cap≤maxLen∧zs.length=cap∧(∀ i,i<zs.length→w.cell? (a.add i)=some (.int .u8 (zs.getD i 0)))∧(∀ n∈zs,(Lit.int .u8 n).wf=true)) :
 ∃ (x:Inp) (s:Nat→AV) (xs:List UInt8),x.holds w∧∀ (l:List Inp) (i:Nat) (G:T (T AV)),l[i]?=some x→VRel (wI l) (s i) v∧SVe (vZ l G).objs l.length xs (s i):=by
 rcases h with rfl | ⟨a,len,cap,zs,rfl,hl,_,hz,hc,hwf⟩
 ·exact ⟨⟨false,0,.leaf,0,0⟩,fun _=>.nils 0 0,[],fun h=>(by cases h),fun l i G e=>⟨rfl,.inl SV.nil⟩⟩
 ·by_cases h0:cap=0
  ·subst h0;obtain rfl:len=0:=by omega
   exact ⟨⟨false,0,.leaf,0,0⟩,fun _=>.sle,[],fun h=>(by cases h),fun l i G e=>⟨⟨a,rfl⟩,.inr ⟨rfl,rfl⟩⟩⟩
  ·obtain ⟨b,off,rfl,hold⟩:=zpJ (w:=w) (a:=a) (n:=cap) (f:=fun i=>.int .u8 (zs.getD i 0)) (g:=fun i=>.int .u8 (zs.getD i 0)) (fun i hi=>hc i (by omega)) (fun i _=>rfl) (by omega);have hxl:((zs.take len).map fun n=>UInt8.ofNat n.toNat).length=len:=by rw [List.length_map,List.length_take]; omega
   refine ⟨_,fun i=>.slc i 0 off len cap,(zs.take len).map fun n=>UInt8.ofNat n.toNat,hold,fun l i G e=>⟨⟨⟨b,0,0⟩,?_,Nat.zero_le _,rfl⟩,.inl (.inr (.inl ⟨i,0,off,cap,by rw [hxl],by rw [hxl]; exact hl,Nat.zero_le _,(List.getElem?_eq_some_iff.1 e).1,.inr ⟨_,off,off+cap,(zbH e).trans rfl,rfl,Nat.le_refl _,?_,fun k hk=>?_⟩⟩))⟩⟩
   ·unfold wI;rw [if_pos rfl,e]
   ·rw [bEn.flat,hxl];omega
   ·rw [bEn.flat,hxl] at hk;rw [znQ];show some (AV.int .u8 (zs.getD (off+k - off) 0))=_;rw [Nat.add_sub_cancel_left,List.getElem?_map,List.getElem?_take_of_lt (by omega),List.getD_eq_getElem?_getD,List.getElem?_eq_getElem (by omega)];show some (AV.int .u8 zs[k])=some (AV.int .u8 (bi (UInt8.ofNat (zs[k]).toNat)));rw [bi_of (hwf _ (List.getElem_mem _))]
end Go.Proofs.Ytcdigdplhlgcaaa.gx
end
