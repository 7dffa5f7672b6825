/- The statement TyUnions: whatever bytes come in as choices, and whatever number, the call returns true and leaves all that was there as it was: a union does not mind order, nor what is there twice, nor in which turns it is made. No condition: it is shown of all arguments. -/
import Derived.Test.YtcdigdplhlgcaaaRows
import Derived.WalkKit
import Derived.ProofKit
import Derived.OpenShut
import Derived.ChangeMaps5
import Derived.Deep.Slices
import Derived.Deep.Strs
import Derived.Laws.IdiomStrings
import Derived.Laws.Externs
import Derived.Lib.Bytealg
import Derived.Lib.MakeNoZero
import Derived.Lib.UnsafeStr
import Derived.Laws.World
import Derived.Below
import Derived.Test.YtcdigdplhlgcaaaChecked
import GoSem.Dispatch
import GoSem.Step
import Derived.Laws.Sem
import Derived.Calls
import Derived.Carry
import Derived.ChangeSlices
import Derived.SliceStrings
import Derived.Laws.Strings
import Derived.Orders
import Derived.Test.YtcdigdplhlgcaaaF00
import Derived.Test.YtcdigdplhlgcaaaF01
import Derived.Test.YtcdigdplhlgcaaaF02
import Derived.Test.YtcdigdplhlgcaaaF03
import Derived.Test.YtcdigdplhlgcaaaF04
import Derived.Test.YtcdigdplhlgcaaaF05
import Derived.Test.YtcdigdplhlgcaaaF06
import Derived.Test.YtcdigdplhlgcaaaF07
import Derived.Test.YtcdigdplhlgcaaaF08
import Derived.Test.YtcdigdplhlgcaaaF09
set_option maxRecDepth 100000
set_option linter.unusedVariables false
namespace Go.Proofs.Ytcdigdplhlgcaaa.gx
open Go Ev tp
section
variable (sa:AV) (j:Int) (prq0:AV) (N:Nat) (prq1 prq2 s1:AV) (z1c crq4:Int) (s3:AV) (z1 crq5:Int) (prq5:AV) (crq6:Int) (prq6:AV)
noncomputable def Ftun:AFrame:=⟨6,106,(tX (tW tZ (.int .u8 j) (tX tZ (tX (tY sa) tZ))) tZ),   [.ops (rg P 6 [1,1,0]).toList ((rg P 6 [1,1,0]).toList.drop 1),.code (cd P 6 [1,1,1])],[],.run,CallKind.normal,none⟩
noncomputable def Ftun_a_:AFrame:=⟨6,106,(tX (tW tZ (.int .u8 j) (tY prq0)) (tX (tX (tX tZ (tY prq0)) tZ) tZ)),   [.ops (rg P 6 [1,1,1,0]).toList ((rg P 6 [1,1,1,0]).toList.drop 1),.code (cd P 6 [1,1,1,1])],[],.run,CallKind.normal,none⟩
noncomputable def Ftun_a__a_n:AFrame:=⟨6,106,(tX (tX tZ (tY prq0)) (tX (tX (tY (.int .i64 ((IntKind.i64.wrap j).tmod z1))) (tX tZ (tX (tY s3) tZ))) (tY prq1))),   [.ops (rg P 6 [1,1,1,1,1,1,1,1,1,0]).toList ((rg P 6 [1,1,1,1,1,1,1,1,1,0]).toList.drop 1),.code (cd P 6 [1,1,1,1,1,1,1,1,1,1])],[],.run,CallKind.normal,none⟩
noncomputable def Ftun_a__a_n_a_n:AFrame:=⟨6,106,(tX (tX (tX tZ (tX (tX tZ (tY prq1)) tZ)) (tY prq0)) (tX (tX (tY (.int .i64 ((IntKind.i64.wrap j).tmod z1c))) (tX (tX tZ (tY prq2)) tZ)) (tW (tX (tX tZ (tY (.bool false))) tZ) prq1 tZ))),   [.ops (rg P 6 [1,1,1,1,1,1,1,1,1,1,0,0]).toList ((rg P 6 [1,1,1,1,1,1,1,1,1,1,0,0]).toList.drop 5),.code (cd P 6 [1,1,1,1,1,1,1,1,1,1,0,1]),.code (cd P 6 [1,1,1,1,1,1,1,1,1,1,1])],[],.run,CallKind.normal,none⟩
noncomputable def Ftun_a__a_n_a_n_a_n:AFrame:=⟨6,106,(tX (tX tZ (tY prq0)) (tX (tX (tY (.int .i64 ((IntKind.i64.wrap j).tmod z1c))) (tX tZ (tX tZ (tY s1)))) (tY prq1))),   [.ops (rg P 6 [1,1,1,1,1,1,1,1,1,1,1,0]).toList ((rg P 6 [1,1,1,1,1,1,1,1,1,1,1,0]).toList.drop 4),.code (cd P 6 [1,1,1,1,1,1,1,1,1,1,1,1])],[],.run,CallKind.normal,none⟩
noncomputable def Ftun_a__a_n_a_n_a_n_a_:AFrame:=⟨6,106,(tX (tX (tX tZ (tX tZ (tX (tX (tY s3) tZ) tZ))) (tX tZ (tY (.int .i64 crq4)))) (tX tZ (tY prq1))),   [.ops (rg P 6 [1,1,1,1,1,1,1,1,1,1,1,1,1,1,1,0]).toList ((rg P 6 [1,1,1,1,1,1,1,1,1,1,1,1,1,1,1,0]).toList.drop 1),.code (cd P 6 [1,1,1,1,1,1,1,1,1,1,1,1,1,1,1,1])],[],.run,CallKind.normal,none⟩
noncomputable def Ftun_a__a_n_a_n_a_n_a__a_:AFrame:=⟨6,106,(tX (tX (tX (tX (tY prq5) tZ) tZ) (tX tZ (tY (.int .i64 crq4)))) (tX (tX (tX (tY (.int .i64 crq5)) tZ) tZ) (tW (tX (tX tZ (tX (tY (.slc N 0 0 2 2)) tZ)) tZ) prq1 tZ))),   [.ops (rg P 6 [1,1,1,1,1,1,1,1,1,1,1,1,1,1,1,1,0]).toList ((rg P 6 [1,1,1,1,1,1,1,1,1,1,1,1,1,1,1,1,0]).toList.drop 3),.code (cd P 6 [1,1,1,1,1,1,1,1,1,1,1,1,1,1,1,1,1])],[],.run,CallKind.normal,none⟩
noncomputable def Ftun_a__a_n_a_n_a_n_a__a__a_ny:AFrame:=⟨6,106,(tX (tX (tX tZ (tX tZ (tX tZ (tX (tY (.bool true)) tZ)))) (tX (tX (tY prq6) tZ) (tX tZ (tX tZ (tX (tY prq5) tZ))))) (tX (tX (tX tZ (tX tZ (tX (tY (.bool false)) tZ))) (tX tZ (tX tZ (tX (tY prq1) tZ)))) (tW (tX (tY (.int .i64 crq6)) tZ) prq1 tZ))),   [.ops (rg P 6 [1,1,1,1,1,1,1,1,1,1,1,1,1,1,1,1,1,0]).toList ((rg P 6 [1,1,1,1,1,1,1,1,1,1,1,1,1,1,1,1,1,0]).toList.drop 8),.code (cd P 25 [1,0,1,0,1])],[],.run,CallKind.normal,none⟩
noncomputable def Ftun_a__a_n_a_n_a_n_a__a__a_ny_a_yy:AFrame:=⟨6,106,(tX (tX tZ (tX tZ (tX (tX (tX tZ (tY prq1)) tZ) tZ))) (tX (tX (tX tZ (tX tZ (tX (tY (.bool false)) tZ))) (tX (tX (tX tZ (tY (.bool true))) tZ) tZ)) (tX tZ (tX (tX (tX tZ (tY prq6)) tZ) tZ)))),   [.ops (rg P (6:FuncId) [1,1,1,1,1,1,1,1,1,1,1,1,1,1,1,1,1,0]).toList ((rg P (6:FuncId) [1,1,1,1,1,1,1,1,1,1,1,1,1,1,1,1,1,0]).toList.drop 17),.code (cd P (25:FuncId) [1,0,1,0,1])],[],.run,CallKind.normal,none⟩
end
section
variable {R:AV→AHeap→Prop} {O:T AObj} {N Nc:Nat} {sa prq0 prq1 prq2 s3c prq4 s1c prq5 prq6:AV} {j crq1 crq2 z1c crq4 crq5 crq6:Int} {G:T (T AV)} {K:AM→Prop} {td:List AItem} {blq3 blq7 blq8:Bool}
theorem t_tun:((Goal P (0) 20 (fun x x_1=>x=AV.bool true) (zos P 20 [] G))∧K (AM.mk (enF 21 [sa]) [Ftun sa j] ⟨O,N,G⟩))=OT 6 R 0 K (.seq [.run 8,.callv [] (.bool true),.run 7,.keep [1,21],.run 1] .fin) ((AM.mk (enF 6 [sa,.int .u8 j]) [] ⟨O,N,G⟩)):=by kernel_rfl
theorem t_tun_a_:(K (AM.mk (enF 25 [prq0]) [Ftun_a_ j prq0] ⟨O,N,G⟩))=OT 6 R 0 K (.seq [.run 6,.keep [1,5,24],.run 1] .fin) ((AM.mk (RF 21 25 (tX tZ (tY prq0)) td) ((Ftun sa j)::[]) ⟨O,N,G⟩)):=by kernel_rfl
theorem t_tun_a__a_:((((crq1 != (0:Int)))=true→((R (.bool true) (⟨O,N,G⟩))))∧(((crq1 != (0:Int)))=false→(∃ (z1:Int) (s1:AV) (s2:AV) (O1:T AObj) (N1:Nat) (s3:AV) (O2:T AObj) (N2:Nat),(lN O N G 33 prq0 z1)∧(z1≠(0:Int))∧(zK P (⟨O,N,G⟩) (33) (prq0) ((some ((IntKind.i64.wrap j).tmod z1))) (none) (none)=(some s1))∧(zh P (⟨O,N,G⟩) (Builtin.append) ((some 33)) ((some 33)) ([.nils 0 0,s1])=(some (.val s2 ⟨O1,N1,G⟩)))∧(zh P (⟨O1,N1,G⟩) (Builtin.append) ((some 33)) ((some 33)) ([s2,prq0])=(some (.val s3 ⟨O2,N2,G⟩)))∧K (AM.mk (enF 25 [s3]) [Ftun_a__a_n j prq0 prq1 s3 z1] ⟨O2,N2,G⟩))))=OT 6 R 0 K (.seq [.run 13] (.fork 29 (.seq [.run 6,.done] .fin) (.ex fun z1:Int=>(.ex fun s1:AV=>(.ex fun s2:AV=>(.ex fun O1:T AObj=>(.ex fun N1:Nat=>(.ex fun s3:AV=>(.ex fun O2:T AObj=>(.ex fun N2:Nat=>(.seq [.run 7,.hopn (.int .i64 z1) O (N),.op,.run 11,.hop (s1) O,.hopn (s2) O1 (N1),.run 6,.hopn (s3) O2 (N2),.run 5,.keep [5,6,8,44],.run 1] .fin))))))))))) ((AM.mk (RF 25 56 (tX (tX (tY (.int .i64 crq1)) tZ) (tY prq1)) td) ((Ftun_a_ j prq0)::[]) ⟨O,N,G⟩)):=by kernel_rfl
theorem t_tun_a__a_n_a_:((((crq2 != (0:Int)))=true→((R (.bool false) (⟨O,N,G⟩))))∧(((crq2 != (0:Int)))=false→(K (AM.mk (enF 18 [prq1,prq2]) [Ftun_a__a_n_a_n j prq0 prq1 prq2 z1c] ⟨O,N,G⟩))))=OT 6 R 0 K (.seq [.run 13] (.fork 50 (.seq [.run 12,.done] .fin) (.seq [.run 2,.keep [5,6,8,50,51,52],.run 1] .fin))) ((AM.mk (RF 25 56 (tX (tX (tY (.int .i64 crq2)) tZ) (tY prq2)) td) ((Ftun_a__a_n j prq0 prq1 s3c z1c)::[]) ⟨O,N,G⟩)):=by kernel_rfl
theorem t_tun_a__a_n_a_n_a_:((((!blq3))=true→((R (.bool false) (⟨O,N,G⟩))))∧(((!blq3))=false→(∃ (s1:AV),(zK P (⟨O,N,G⟩) (33) (prq0) (none) ((some (IntKind.i64.wrap ((IntKind.i64.wrap j).tmod z1c+(1:Int))))) (none)=(some s1))∧K (AM.mk (enF 25 [s1]) [Ftun_a__a_n_a_n_a_n j prq0 prq1 s1 z1c] ⟨O,N,G⟩))))=OT 6 R 0 K (.seq [.run 4] (.fork 55 (.seq [.run 6,.done] .fin) (.ex fun s1:AV=>(.seq [.run 7,.hop (s1) O,.keep [5,6,8,60],.run 1] .fin)))) ((AM.mk (RF 18 18 (tX tZ (tX (tY (.bool blq3)) tZ)) td) ((Ftun_a__a_n_a_n j prq0 prq1 prq2 z1c)::[]) ⟨O,N,G⟩)):=by kernel_rfl
theorem t_tun_a__a_n_a_n_a_n_a_:(∃ (O1:T AObj) (s1:AV) (O2:T AObj) (N1:Nat) (s2:AV) (s3:AV) (O3:T AObj) (N2:Nat),(ze P (⟨O,N,G⟩) (33) (1) ([(0,prq4)])=(some (.slc N 0 0 1 1,⟨O1,N+1,G⟩)))∧(zh P (⟨O1,N+1,G⟩) (Builtin.append) ((some 33)) ((some 33)) ([.nils 0 0,.slc N 0 0 1 1])=(some (.val s1 ⟨O2,N1,G⟩)))∧(zK P (⟨O2,N1,G⟩) (33) (prq0) ((some (IntKind.i64.wrap ((IntKind.i64.wrap j).tmod z1c+(1:Int))))) (none) (none)=(some s2))∧(zh P (⟨O2,N1,G⟩) (Builtin.append) ((some 33)) ((some 33)) ([s1,s2])=(some (.val s3 ⟨O3,N2,G⟩)))∧K (AM.mk (enF 25 [s3]) [Ftun_a__a_n_a_n_a_n_a_ prq1 crq4 s3] ⟨O3,N2,G⟩))=OT 6 R 0 K (.ex fun O1:T AObj=>(.ex fun s1:AV=>(.ex fun O2:T AObj=>(.ex fun N1:Nat=>(.ex fun s2:AV=>(.ex fun s3:AV=>(.ex fun O3:T AObj=>(.ex fun N2:Nat=>(.seq [.run 15,.hopn (.slc N 0 0 1 1) O1 (N+1),.hopn (s1) O2 (N1),.run 8,.hop (s2) O2,.hopn (s3) O3 (N2),.run 5,.keep [6,13,75],.run 1] .fin))))))))) ((AM.mk (RF 25 56 (tX (tX (tY (.int .i64 crq4)) tZ) (tY prq4)) td) ((Ftun_a__a_n_a_n_a_n j prq0 prq1 s1c z1c)::[]) ⟨O,N,G⟩)):=by kernel_rfl
theorem t_tun_a__a_n_a_n_a_n_a__a_:(∃ (O1:T AObj),(ze P (⟨O,N,G⟩) (33) (2) ([(0,prq1),(1,prq1)])=(some (.slc N 0 0 2 2,⟨O1,N+1,G⟩)))∧K (AM.mk (enF 25 [.slc N 0 0 2 2]) [Ftun_a__a_n_a_n_a_n_a__a_ N prq1 crq4 crq5 prq5] ⟨O1,N+1,G⟩))=OT 6 R 0 K (.ex fun O1:T AObj=>(.seq [.run 11,.hopn (.slc N 0 0 2 2) O1 (N+1),.keep [6,13,15,16,82],.run 1] .fin)) ((AM.mk (RF 25 56 (tX (tX (tY (.int .i64 crq5)) tZ) (tY prq5)) td) ((Ftun_a__a_n_a_n_a_n_a_ prq1 crq4 s3c)::[]) ⟨O,N,G⟩)):=by kernel_rfl
theorem t_tun_a__a_n_a_n_a_n_a__a__a_:((((crq4 != (0:Int)))=true→((R (.bool true) (⟨O,N,G⟩))))∧(((crq4 != (0:Int)))=false→((((crq5==(0:Int)))=true→(K (AM.mk (enF 18 [prq1,prq5]) [Ftun_a__a_n_a_n_a_n_a__a__a_ny prq1 prq5 crq6 prq6] ⟨O,N,G⟩)))∧(((crq5==(0:Int)))=false→((R (.bool false) (⟨O,N,G⟩)))))))=OT 6 R 0 K (.seq [.run 12] (.fork 88 (.seq [.run 20,.done] .fin) (.seq [.run 3] (.fork 91 (.seq [.run 2,.keep [6,17,18,88,91,92,93],.run 1] .fin) (.seq [.run 17,.done] .fin))))) ((AM.mk (RF 25 56 (tX (tX (tY (.int .i64 crq6)) tZ) (tY prq6)) td) ((Ftun_a__a_n_a_n_a_n_a__a_ Nc prq1 crq4 crq5 prq5)::[]) ⟨O,N,G⟩)):=by kernel_rfl
theorem t_tun_a__a_n_a_n_a_n_a__a__a_ny_a_:(((blq7)=true→((((crq6==(0:Int)))=true→(K (AM.mk (enF 18 [prq1,prq6]) [Ftun_a__a_n_a_n_a_n_a__a__a_ny_a_yy prq1 prq6] ⟨O,N,G⟩)))∧(((crq6==(0:Int)))=false→((R (.bool false) (⟨O,N,G⟩))))))∧((blq7)=false→((R (.bool false) (⟨O,N,G⟩)))))=OT 6 R 0 K (.seq [.run 3] (.fork 96 (.seq [.run 4] (.fork 100 (.seq [.run 2,.keep [88,100,101,102],.run 1] .fin) (.seq [.run 8,.done] .fin))) (.seq [.run 12,.done] .fin))) ((AM.mk (RF 18 18 (tX tZ (tX (tY (.bool blq7)) tZ)) td) ((Ftun_a__a_n_a_n_a_n_a__a__a_ny prq1 prq5 crq6 prq6)::[]) ⟨O,N,G⟩)):=by kernel_rfl
theorem t_tun_a__a_n_a_n_a_n_a__a__a_ny_a_yy_a_:((R (.bool blq8) (⟨O,N,G⟩)))=OT 6 R 0 K (.seq [.run 6,.done] .fin) ((AM.mk (RF 18 18 (tX tZ (tX (tY (.bool blq8)) tZ)) td) ((Ftun_a__a_n_a_n_a_n_a__a__a_ny_a_yy prq1 prq6)::[]) ⟨O,N,G⟩)):=by kernel_rfl
end
theorem works20 {G:T (T AV)}:Goal P 0 20 (fun x _=>x=AV.bool true) (zos P 20 [] G):=Goal.ofRun mix (n:=100000) (by kernel_rfl) fun _=>rfl
theorem tm_of {j:Int}{n:Nat}(h:0≤j∧j≤255)(hn:0<n):(IntKind.i64.wrap j).tmod ((n:Nat):Int)=((j.toNat % n:Nat):Int):=by
  have e:IntKind.i64.wrap j=j:=by rw [IntKind.wrap_i64]; omega
  rw [e,Int.tmod_eq_emod_of_nonneg h.1]
  have:=Int.toNat_of_nonneg h.1
  rw [Int.natCast_emod,this]
theorem drop_rel {α β:Type}{R:α→β→Prop}{l:List α}{m:List β}{k:Nat}(h:∀ (j:Nat) x y,l[j]?=some x→m[j]?=some y→R x y)(j:Nat)(x:α)(y:β)(a:(l.drop k)[j]?=some x)(b:(m.drop k)[j]?=some y):R x y:=by
  rw [List.getElem?_drop] at a b
  exact h _ x y a b
theorem take_rel {α β:Type}{R:α→β→Prop}{l:List α}{m:List β}{k:Nat}(h:∀ (j:Nat) x y,l[j]?=some x→m[j]?=some y→R x y)(j:Nat)(x:α)(y:β)(a:(l.take k)[j]?=some x)(b:(m.take k)[j]?=some y):R x y:=by
  rw [List.getElem?_take] at a b
  split at a
  ·rename_i hk
   rw [if_pos hk] at b
   exact h _ x y a b
  ·cases a
theorem unions_goal {O:T AObj}{N:Nat}{xs:List UInt8}{sa:AV}{j:Int}(hx:SVe O N xs sa)(hj:0≤j∧j≤255):Goal P 0 6 (fun v _=>v=.bool true) (AM.mk (enF 6 [sa,.int .u8 j]) [] ⟨O,N,.leaf⟩):=by
  obtain ⟨us,hu5,hnm,ls⟩:=zoZ xs
  refine ot t_tun ⟨works20,?_⟩
  refine ls hx (Nat.le_refl _) fun O1 N1 td1 ps s ex1 sv0 hl tr=>?_
  have sv:SV O1 1 pE 0 N1 ps s:=sv0.keep (fun _ _ _=>rfl) (Nat.zero_le _) (Nat.le_refl _)
  have svx:∀ {O2:T AObj} {N2:Nat},Ext O1 N1 O2 N2→SV O2 1 pE 0 N1 ps s:=fun ex=>sv.keep (fun j _ hj=>ex.2 j hj) (Nat.le_refl _) (Nat.le_refl _)
  have trx:∀ {O2:T AObj} {N2:Nat},Ext O1 N1 O2 N2→∀ (j:Nat) (x:Ty) (p:Option Nat),us[j]?=some x→ps[j]?=some p→Tr O2 N2 x p:=fun ex j x p a b=>((tr j x p a b).ext ex (Nat.le_refl _)).same (fun _ _=>rfl) ex.1
  refine ot t_tun_a_ ?_
  refine kG sv hl (by omega) tr hnm (Nat.le_refl _) fun O2 N2 td2 p2 ex2 t2=>?_
  refine ot t_tun_a__a_ ⟨fun _=>rfl,fun h=>?_⟩
  have hu:(xB us).1=0:=by simpa using h
  obtain ⟨hne,hall⟩:=zfg hu
  have hchk:=zia hu
  obtain ⟨hok,hcnt⟩:=tp.chk_ok hchk
  have hn0:0<ps.length:=by
    rw [hl]
    cases us with
    | nil=>exact absurd rfl hne
    | cons=>simp
  obtain ⟨kk,hkk,hlt⟩:∃ kk:Nat,(IntKind.i64.wrap j).tmod ((ps.length:Nat):Int)=((kk:Nat):Int)∧kk<ps.length:=⟨_,tm_of hj hn0,Nat.mod_lt _ hn0⟩
  -- turned
  obtain ⟨s1,e1,r1,_⟩:=(svx ex2).sub pSl pEn (a:=kk) (b:=ps.length) (by omega) (Nat.le_refl _) (some ((kk:Nat):Int)) none (.inl rfl) (.inr ⟨rfl,rfl⟩) N2 .leaf
  obtain ⟨O3,N3,s2,e2,g2,n3,m3,f3,h3⟩:=(GV.nil (el:=23) (lo:=N2) (hi:=N2) (O:=O2):GV O2 23 1 pE N2 N2 [] (.nils 0 0)).app pSl pEn r1 (Nat.le_refl _) (by rw [List.length_take,List.length_drop]; simp only [List.length_nil]; omega) .leaf
  have x3:Ext O2 N2 O3 N3:=⟨n3,fun k hk=>f3 k hk (fun h=>absurd rfl h)⟩
  have d1:(ps.drop kk).take (ps.length - kk)=ps.drop kk:=List.take_of_length_le (by rw [List.length_drop]; omega)
  rw [List.nil_append,d1] at g2
  obtain ⟨O4,N4,s3,e3,g3,n4,m4,f4,h4⟩:=g2.app pSl pEn (svx (ex2.trans x3)) (by omega) (by rw [List.length_drop]; omega) .leaf
  have x4:Ext O2 N2 O4 N4:=⟨by omega,fun k hk=>(f4 k (by omega) (fun h=>by have:=(g2.sid_lt h).1; omega)).trans (x3.2 k hk)⟩
  have x14:=ex2.trans x4
  refine ⟨((ps.length:Nat):Int),s1,s2,O3,N3,s3,O4,N4,(svx ex2).len pSl _ _,by omega,by rw [hkk]; exact e1,e2,e3,?_⟩
  have eqt:xB (us.drop kk++us)=xB us:=zgQ hnm fun x=>⟨fun h=>(List.mem_append.1 h).elim (List.mem_of_mem_drop) id,fun h=>List.mem_append.2 (.inr h)⟩
  refine kG (ts:=us.drop kk++us) (hi:=N4) ((g3.sv pEn).keep (fun _ _ _=>rfl) (Nat.zero_le _) (Nat.le_refl _)) (by rw [List.length_append,List.length_append,List.length_drop,List.length_drop]; omega) (by rw [List.length_append,List.length_drop]; omega) (zaX (by rw [List.length_drop,List.length_drop]; omega) (drop_rel (trx x14)) (trx x14)) (fun x hx=>(List.mem_append.1 hx).elim (fun h=>hnm x (List.mem_of_mem_drop h)) (hnm x)) (Nat.le_refl _) fun O5 N5 td5 p3 ex5 t3=>?_
  rw [eqt] at t3 ⊢
  rw [hu]
  refine ot t_tun_a__a_n_a_ ⟨fun g=>absurd g (by decide),fun _=>?_⟩
  have x25:=x4.trans ex5
  refine zby ((t2.ext x25 (Nat.le_refl _)).same (fun _ _=>rfl) x25.1) t3 (Nat.le_refl _) fun O6 N6 td6 b6 hb6 ex6=>?_
  have b6t:b6=true:=hb6.2 ⟨hcnt,hcnt,rfl⟩
  rw [b6t]
  have x26:=x25.trans ex6
  have x16:=ex2.trans x26
  -- the first
  have w1:IntKind.i64.wrap (((kk:Nat):Int)+(1:Int))=((kk+1:Nat):Int):=zq (by omega)
  obtain ⟨s4,e4,r4,_⟩:=(svx x16).sub pSl pEn (a:=0) (b:=kk+1) (by omega) (by omega) none (some ((kk+1:Nat):Int)) (.inr ⟨rfl,rfl⟩) (.inl rfl) N6 .leaf
  refine ot t_tun_a__a_n_a_n_a_ ⟨fun g=>absurd g (by decide),fun _=>⟨s4,by rw [hkk,w1]; exact e4,?_⟩⟩
  rw [List.drop_zero,Nat.sub_zero] at r4
  have hnp:∀ x∈us.take (kk+1),NM x:=fun x hx=>hnm x (List.mem_of_mem_take hx)
  refine kG (ts:=us.take (kk+1)) (hi:=N6) (r4.keep (fun _ _ _=>rfl) (Nat.le_refl _) x16.1) (by rw [List.length_take,List.length_take]; omega) (by rw [List.length_take]; omega) (take_rel (trx x16)) hnp (Nat.le_refl _) fun O7 N7 td7 p4 ex7 t4=>?_
  have x17:=x16.trans ex7
  -- the first in place of its parts
  obtain ⟨O8,e8,v8,_,f8⟩:=j8 pEn p4 O7 N7 .leaf (st:=33) (el:=23) (zqi p4)
  have x8:Ext O7 N7 O8 (N7+1):=⟨Nat.le_succ _,fun k hk=>f8 k (by omega)⟩
  obtain ⟨O9,N9,s5,e9,g9,n9,m9,f9,h9⟩:=(GV.nil (el:=23) (lo:=N7+1) (hi:=N7+1) (O:=O8):GV O8 23 1 pE (N7+1) (N7+1) [] (.nils 0 0)).app pSl pEn v8 (Nat.le_refl _) (by simp only [List.length_nil,List.length_cons]; omega) .leaf
  have x9:Ext O8 (N7+1) O9 N9:=⟨n9,fun k hk=>f9 k hk (fun h=>absurd rfl h)⟩
  rw [List.nil_append] at g9
  have x79:=x8.trans x9
  obtain ⟨s6,e10,r6,_⟩:=(svx (x17.trans x79)).sub pSl pEn (a:=kk+1) (b:=ps.length) (by omega) (Nat.le_refl _) (some ((kk+1:Nat):Int)) none (.inl rfl) (.inr ⟨rfl,rfl⟩) N9 .leaf
  obtain ⟨O10,N10,s7,e11,g10,n10,m10,f10,h10⟩:=g9.app pSl pEn r6 (by omega) (by rw [List.length_take,List.length_drop]; simp only [List.length_nil,List.length_cons]; omega) .leaf
  have d2:(ps.drop (kk+1)).take (ps.length - (kk+1))=ps.drop (kk+1):=List.take_of_length_le (by rw [List.length_drop]; omega)
  rw [d2] at g10
  have x710:Ext O7 N7 O10 N10:=⟨by have:=x79.1; omega,fun k hk=>(f10 k (by have:=x79.1; omega) (fun h=>by have:=(g9.sid_lt h).1; omega)).trans (x79.2 k hk)⟩
  have x110:=x17.trans x710
  refine ot t_tun_a__a_n_a_n_a_n_a_ ⟨O8,s5,O9,N9,s6,s7,O10,N10,e8,e9,by rw [hkk,w1]; exact e10,e11,?_⟩
  have hn4:NM (xB (us.take (kk+1))).2:=fun _=>zdK hnp
  have hnr:∀ x∈us.drop (kk+1),NM x:=fun x hx=>hnm x (List.mem_of_mem_drop hx)
  have hr1:∀ (k:Nat) (x:Ty) (q:Option Nat),[(xB (us.take (kk+1))).2][k]?=some x→[p4][k]?=some q→Tr O10 N10 x q:=fun k x q a b=>by
    rcases k with _ | k
    ·cases a
     cases b
     exact (t4.ext x710 (Nat.le_refl _)).same (fun _ _=>rfl) x710.1
    ·simp at a
  have hr2:∀ (k:Nat) (x:Ty) (q:Option Nat),(us.drop (kk+1))[k]?=some x→(ps.drop (kk+1))[k]?=some q→Tr O10 N10 x q:=drop_rel (trx x110)
  have hrel:∀ (k:Nat) (x:Ty) (q:Option Nat),([(xB (us.take (kk+1))).2]++us.drop (kk+1))[k]?=some x→([p4]++ps.drop (kk+1))[k]?=some q→Tr O10 N10 x q:=zaX (by rfl) hr1 hr2
  refine kG (ts:=[(xB (us.take (kk+1))).2]++us.drop (kk+1)) (ps:=[p4]++ps.drop (kk+1)) (hi:=N10) ((g10.sv pEn).keep (fun _ _ _=>rfl) (Nat.zero_le _) (Nat.le_refl _)) (by rw [List.length_append,List.length_append,List.length_drop,List.length_drop,hl]; rfl) (by rw [List.length_append,List.length_drop]; simp only [List.length_cons,List.length_nil]; omega) hrel (NM.cons hn4 hnr) (Nat.le_refl _) fun O11 N11 td11 p5 ex11 t5=>?_
  -- twice
  have x211:Ext O2 N2 O11 N11:=((x26.trans ex7).trans x710).trans ex11
  have t2':=(t2.ext x211 (Nat.le_refl _)).same (O':=O11) (fun _ _=>rfl) x211.1
  obtain ⟨q2,hq2⟩:∃ q,p2=some q:=by
    cases p2 with
    | some q=>exact ⟨q,rfl⟩
    | none =>
      have:=t2.isNo.1.1 rfl
      revert this hok
      cases (xB us).2 with
      | no=>intro h; rw [xY] at h; cases h
      | mk=>intro _ h; cases h
  subst hq2
  obtain ⟨O12,e12,v12,f12⟩:=zpT pEn (some q2) (some q2) O11 N11 .leaf (st:=33) (el:=23) (v:=.ptr q2 0 0) (w:=pv (some q2)) (litPP q2 (some q2))
  have x12:Ext O11 N11 O12 (N11+1):=⟨Nat.le_succ _,fun k hk=>f12 k (by omega)⟩
  refine ot t_tun_a__a_n_a_n_a_n_a__a_ ⟨O12,e12,?_⟩
  have hnu:NM (xB us).2:=fun _=>zdK hnm
  have t2'':=(t2'.ext x12 (Nat.le_refl _)).same (O':=O12) (fun _ _=>rfl) x12.1
  refine kG (ts:=[(xB us).2,(xB us).2]) (ps:=[some q2,some q2]) (hi:=N11+1) (v12.keep (fun _ _ _=>rfl) (Nat.zero_le _) (Nat.le_refl _)) rfl (by simp only [List.length_cons,List.length_nil]; omega) (fun k x q a b=>by
    rcases k with _ | _ | k <;> simp at a b <;> subst a <;> subst b <;> exact t2'') (NM.cons hnu (NM.cons hnu (fun x hx=>by cases hx))) (Nat.le_refl _) fun O13 N13 td13 p6 ex13 t6=>?_
  refine ot t_tun_a__a_n_a_n_a_n_a__a__a_ ⟨fun _=>rfl,fun h=>?_⟩
  have hg:(xB (us.take (kk+1))).1=0:=by simpa using h
  have hrest:(us.drop (kk+1)).all (fun x=>chk x==0)=true:=List.all_eq_true.2 fun x hx=>List.all_eq_true.1 hall x (List.mem_of_mem_drop hx)
  have eq2:xB ([(xB (us.take (kk+1))).2]++us.drop (kk+1))=xB us:=by
    have:=zfT hnp hnr hg hrest
    rwa [List.take_append_drop] at this
  have eq3:xB [(xB us).2,(xB us).2]=xB us:=by
    have n1:∀ x∈[(xB us).2],NM x:=NM.cons hnu (fun x hx=>by cases hx)
    have c1:[(xB us).2].all (fun x=>chk x==0)=true:=by rw [List.all_cons,hchk]; rfl
    rw [zfT hnm n1 hu c1,← zgQ (ts:=(xB us).2::us) (fun x hx=>(List.mem_append.1 hx).elim (hnm x) (n1 x)) (fun x=>by simp [or_comm]),zfT hnm hnm hu hall]
    exact zgQ hnm fun x=>by simp
  rw [eq2] at t5 ⊢
  rw [eq3] at t6 ⊢
  rw [hu]
  refine ⟨fun _=>?_,fun g=>absurd g (by decide)⟩
  have x1113:=x12.trans ex13
  have x213:=x211.trans x1113
  have u13:=(t2.ext x213 (Nat.le_refl _)).same (O':=O13) (fun _ _=>rfl) x213.1
  refine zby u13 ((t5.ext x1113 (Nat.le_refl _)).same (fun _ _=>rfl) x1113.1) (Nat.le_refl _) fun O14 N14 td14 b14 hb14 ex14=>?_
  have b14t:b14=true:=hb14.2 ⟨hcnt,hcnt,rfl⟩
  rw [b14t]
  refine ot t_tun_a__a_n_a_n_a_n_a__a__a_ny_a_ ⟨fun _=>⟨fun _=>?_,fun g=>absurd g (by decide)⟩,fun g=>absurd g (by decide)⟩
  refine zby ((u13.ext ex14 (Nat.le_refl _)).same (fun _ _=>rfl) ex14.1) ((t6.ext ex14 (Nat.le_refl _)).same (fun _ _=>rfl) ex14.1) (Nat.le_refl _) fun O15 N15 td15 b15 hb15 ex15=>?_
  have b15t:b15=true:=hb15.2 ⟨hcnt,hcnt,rfl⟩
  rw [b15t]
  exact ot t_tun_a__a_n_a_n_a_n_a__a__a_ny_a_yy_a_ rfl
end Go.Proofs.Ytcdigdplhlgcaaa.gx
namespace Go.Proofs.Ytcdigdplhlgcaaa.tyUnions
open Go Go.ChangeShapes Go.WideShapes Go.ChangeAt Go.RowKit Go.ChangeMaps
open Ev gx
theorem own:ownKnob Try.prog.godebug=none:=by kernel_rfl
/-! ### The row's step -/
theorem lifted (os:Os)(started:os.Started)(H:Type)(enc:TypeId × Value→H) :
    ReturnsInHanded {} Try.checked os 6 .any (Rows.tyUnionsSpec.pre6 enc Try.prog Try.f6 Rows.tyUnionsRow.domain false) (Rows.tyUnionsSpec.post enc Try.prog Try.f6 false true false false):=by
  refine returnsInHanded_of_change (C:=Try.checked) own started (by kernel_rfl) Try.func6
    (ChangeSpec.witness6 (enc:=enc) (C:=Try.checked) false ⟨#[],#[.slice none 0 0,.int .u8 0],[]⟩ 8 (by kernel_rfl) (by kernel_rfl) (by kernel_rfl) (by kernel_rfl)) ?_
  intro W base args ds gs before hval0 hW hcnd _
  have hval:∀ (j:Nat) t v,Try.f6.params[j]?=some t→args[j]?=some v→Value.okWide Try.prog W .any base t v:=hval0
  have hW':=hW
  obtain ⟨p,q,hA0,hV,rfl,hfz,hnd⟩:=hW
  have hA:DataW.TrodAll enc Try.prog W 0 (fun _=>true) true Try.f6.params.toList args.toList ds p:=hA0
  rw [Try.params6] at hA hval
  obtain ⟨v0,vs0,d0,ds0,p0,q0,hargs,rfl,rfl,h0,r0⟩:=trodAll_cons hA
  obtain ⟨v1,vs1,d1,ds1,p1,q1,rfl,rfl,rfl,h1,r1⟩:=trodAll_cons r0
  obtain ⟨rfl,rfl,rfl⟩:=trodAll_nil r1
  obtain rfl:args=#[v0,v1]:=by cases args; simp_all
  obtain ⟨rfl,rfl⟩:=trodVars_none hV
  obtain ⟨x0,s0,xs0,hi0,hv0⟩:=zmw (Ev.in_ints Try.underlying22 Try.underlying5 (by kernel_rfl) (hval 0 22 v0 rfl rfl) h0)
  obtain ⟨j,rfl,_,_,wj⟩:=open_int (k:=.u8) (by kernel_rfl) (hval 1 5 v1 rfl rfl) h1
  let l:List Inp:=[x0]
  have hG:zmT .leaf W:=fun g c e=>by cases e
  have run:Calls Try.prog 6 #[v0,.int .u8 j] W fun r w'=>r=.returned (.bool true)∧Old W w' :=
    zlE (f:=6) (args:=[s0 0,.int .u8 j]) (a:=enF 6 [s0 0,.int .u8 j]) (l:=l) (G:=.leaf) (vs:=[v0,.int .u8 j]) (by kernel_rfl) hG
      (fun x hx=>by
        simp only [l,List.mem_cons,List.not_mem_nil,or_false] at hx
        rcases hx with rfl <;> assumption)
      ⟨_,_,rfl,(hv0 l 0 .leaf rfl).1,_,_,rfl,rfl,rfl⟩
      (unions_goal (hv0 l 0 .leaf rfl).2 (bounds_u8 wj))
  refine run.mono fun e W' ⟨he,hg⟩=>?_
  subst he
  exact ⟨_,rfl,Ev.post_law (by kernel_rfl) (by kernel_rfl) rfl Try.underlying4 rfl hW' rfl hg⟩
theorem held:Rows.tyUnionsRow.holds Try.pinned (OpenSpec.ofChange Rows.tyUnionsSpec) :=
  OpenClaim.holds_of_wide 6 Try.f6 rfl rfl rfl rfl rfl rfl rfl ⟨rfl,rfl,rfl,rfl,rfl⟩ rfl rfl rfl rfl rfl (by kernel_rfl) Try.func6 (by kernel_rfl)
    (of_decide_eq_true (by kernel_rfl)) (by unfold Func.isWrapper; first | (rw [if_pos (by decide +kernel)]; kernel_rfl) | (rw [if_neg (by decide +kernel)]; exact ⟨rfl,rfl⟩))
    (fun os started H enc _=>lifted os started H enc)
/-- The statement. -/
theorem proved:Rows.TyUnionsSaid :=
  held
#print axioms proved
end Go.Proofs.Ytcdigdplhlgcaaa.tyUnions
