/- The statement TyRecords: whatever bytes come in as choices, and whatever number, the call returns true and leaves all that was there as it was: a record does not mind the order in which its fields are named. No condition: it is shown of all arguments. -/
import Derived.Test.YtcdigdplhlgcaaaRows
import Derived.WalkKit
import Derived.ProofKit
import Derived.OpenShut
import Derived.ChangeMaps5
import Derived.Deep.Slices
import Derived.Deep.Strs
import Derived.Laws.IdiomStrings
import Derived.Laws.Externs
import Derived.Lib.Bytealg
import Derived.Lib.MakeNoZero
import Derived.Lib.UnsafeStr
import Derived.Laws.World
import Derived.Below
import Derived.Test.YtcdigdplhlgcaaaChecked
import GoSem.Dispatch
import GoSem.Step
import Derived.Laws.Sem
import Derived.Calls
import Derived.Carry
import Derived.ChangeSlices
import Derived.SliceStrings
import Derived.Laws.Strings
import Derived.Orders
import Derived.Test.YtcdigdplhlgcaaaD00
import Derived.Test.YtcdigdplhlgcaaaD01
import Derived.Test.YtcdigdplhlgcaaaD02
import Derived.Test.YtcdigdplhlgcaaaD03
import Derived.Test.YtcdigdplhlgcaaaD04
import Derived.Test.YtcdigdplhlgcaaaD05
import Derived.Test.YtcdigdplhlgcaaaD06
import Derived.Test.YtcdigdplhlgcaaaD07
import Derived.Test.YtcdigdplhlgcaaaD08
set_option maxRecDepth 100000
set_option linter.unusedVariables false
namespace Go.Proofs.Ytcdigdplhlgcaaa.gx
open Go Ev tp
section
variable (sa:AV) (N:Nat) (j:Int) (prq0:AV) (z1 crq1:Int) (prq1 s2 s6 prq2:AV)
noncomputable def Ftrc:AFrame:=⟨7,96,(tX (tY (.int .u8 j)) (tX (tX (tX (tY sa) tZ) tZ) tZ)),   [.ops (rg P 7 [1,1,0]).toList ((rg P 7 [1,1,0]).toList.drop 1),.code (cd P 7 [1,1,1])],[],.run,CallKind.normal,none⟩
noncomputable def Ftrc_a_:AFrame:=⟨7,96,(tX (tW (tX (tX tZ (tY (.slc N 0 0 (z1.toNat - 0) 6))) tZ) (.int .u8 j) (tY prq0)) (tX (tX (tX tZ (tY prq0)) tZ) (tY (.slc N 0 0 (z1.toNat - 0) 6)))),   [.ops (rg P 7 [1,1,1,1,0]).toList ((rg P 7 [1,1,1,1,0]).toList.drop 2),.code (cd P 7 [1,1,1,1,1])],[],.run,CallKind.normal,none⟩
noncomputable def Ftrc_a__a_yy:AFrame:=⟨7,96,(tX (tX tZ (tX (tX (tX (tY (.bool true)) tZ) tZ) tZ)) (tX tZ (tX (tX (tX (tY prq1) tZ) tZ) tZ))),   [.ops (rg P 7 [1,1,1,1,1,0,1,0,0]).toList ((rg P 7 [1,1,1,1,1,0,1,0,0]).toList.drop 4),.code (cd P 22 [1,0,1,0,1]),.code (cd P 7 [1,1,1,1,1,1])],[],.run,CallKind.normal,none⟩
noncomputable def Ftrc_a__a_n:AFrame:=⟨7,96,(tX (tX (tX (tY prq1) tZ) (tW (tX (tX (tX (tY s6) tZ) tZ) tZ) prq0 tZ)) (tX (tX (tW (tX (tX (tY s2) tZ) tZ) (.int .i64 crq1) tZ) tZ) tZ)),   [.ops (rg P 7 [1,1,1,1,1,1,1,1,1,1,1,1,1,0]).toList ((rg P 7 [1,1,1,1,1,1,1,1,1,1,1,1,1,0]).toList.drop 2),.code (cd P 7 [1,1,1,1,1,1,1,1,1,1,1,1,1,1])],[],.run,CallKind.normal,none⟩
noncomputable def Ftrc_a__a_n_a_y:AFrame:=⟨7,96,(tX (tX (tX (tY prq1) tZ) (tW (tX tZ (tX (tX (tY prq1) tZ) tZ)) prq0 tZ)) (tX (tX (tW tZ (.int .i64 crq1) (tX (tX (tY (.bool true)) tZ) tZ)) tZ) (tX (tX tZ (tX (tX (tY prq2) tZ) tZ)) tZ))),   [.ops (rg P 7 [1,1,1,1,1,1,1,1,1,1,1,1,1,1,0]).toList ((rg P 7 [1,1,1,1,1,1,1,1,1,1,1,1,1,1,0]).toList.drop 6),.code (cd P 16 [1,0,1,0,1])],[],.run,CallKind.normal,none⟩
noncomputable def Ftrc_a__a_n_a_y_a_yn:AFrame:=⟨7,96,(tX (tX (tX (tY prq1) tZ) (tW (tX (tX tZ (tX (tY prq1) tZ)) tZ) prq0 (tX tZ (tX (tX (tY (.bool true)) tZ) tZ)))) (tX (tX (tX (tX tZ (tX (tY (.bool false)) tZ)) tZ) tZ) tZ)),   [.ops (rg P (7:FuncId) [1,1,1,1,1,1,1,1,1,1,1,1,1,1,0]).toList ((rg P (7:FuncId) [1,1,1,1,1,1,1,1,1,1,1,1,1,1,0]).toList.drop 13),.code (cd P (16:FuncId) [1,0,1,0,1])],[],.run,CallKind.normal,none⟩
end
section
variable {R:AV→AHeap→Prop} {O:T AObj} {N Nc m:Nat} {sa prq0 prq1 prq2 s2c s6c sn2:AV} {j crq1 z1c crq2 crq4:Int} {G:T (T AV)} {K:AM→Prop} {td:List AItem} {lrq2:List UInt8} {blq3:Bool}
theorem t_trc:((Goal P (0) 20 (fun x x_1=>x=AV.bool true) (zni P 20 [] G))∧K (AM.mk (enF 21 [sa]) [Ftrc sa j] ⟨O,N,G⟩))=OT 7 R 0 K (.seq [.run 8,.callv [] (.bool true),.run 7,.keep [1,16],.run 1] .fin) ((AM.mk (enF 7 [sa,.int .u8 j]) [] ⟨O,N,G⟩)):=by kernel_rfl
theorem t_trc_a_:(∃ (O1:T AObj) (z1:Int),(zf P (⟨O,N,G⟩) (32) (6) ([(0,.str [UInt8.ofNat (97)]),(1,.str [UInt8.ofNat (98)]),(2,.str [UInt8.ofNat (99)]),(3,.str [UInt8.ofNat (95)]),(4,.str [UInt8.ofNat (122),UInt8.ofNat (57)]),(5,.str [UInt8.ofNat (66)])])=(some (.slc N 0 0 6 6,⟨O1,N+1,G⟩)))∧(lN O1 (N+1) G 33 prq0 z1)∧((0:Int)≤z1∧z1≤(((6:Nat)):Int))∧K (AM.mk (enF 22 [.slc N 0 0 (z1.toNat - 0) 6,prq0]) [Ftrc_a_ N j prq0 z1] ⟨O1,N+1,G⟩))=OT 7 R 0 K (.ex fun O1:T AObj=>(.ex fun z1:Int=>(.seq [.run 5,.hopn (.slc N 0 0 6 6) O1 (N+1),.run 1,.hopn (.int .i64 z1) O1 (N+1),.op,.run 6,.keep [1,5,6,23,24],.run 1] .fin))) ((AM.mk (RF 21 25 (tX tZ (tY prq0)) td) ((Ftrc sa j)::[]) ⟨O,N,G⟩)):=by kernel_rfl
theorem t_trc_a__a_:(∃ (z1:Int),(lN O N G 33 prq0 z1)∧(((z1==(0:Int)))=true→((((crq1==(0:Int)))=true→(K (AM.mk (enF 16 [prq1]) [Ftrc_a__a_yy prq1] ⟨O,N,G⟩)))∧(((crq1==(0:Int)))=false→((R (.bool false) (⟨O,N,G⟩))))))∧(((z1==(0:Int)))=false→(∃ (z2:Int) (s1:AV) (O1:T AObj) (N1:Nat) (s2:AV) (O2:T AObj) (N2:Nat) (s3:AV) (s4:AV) (O3:T AObj) (N3:Nat) (s5:AV) (s6:AV) (O4:T AObj) (N4:Nat),(lN O N G 33 prq0 z2)∧(z2≠(0:Int))∧((0:Int)≤(IntKind.i64.wrap j).tmod z2∧(IntKind.i64.wrap j).tmod z2≤(↑(z1c.toNat - 0):Int))∧(zg P (⟨O,N,G⟩) (Builtin.append) ((some 32)) ((some 32)) ([.nils 0 0,.slc Nc 0 (if 6=((IntKind.i64.wrap j).tmod z2).toNat then 0 else 0+((IntKind.i64.wrap j).tmod z2).toNat*1) (z1c.toNat - 0 - ((IntKind.i64.wrap j).tmod z2).toNat) (6 - ((IntKind.i64.wrap j).tmod z2).toNat)])=(some (.val s1 ⟨O1,N1,G⟩)))∧((0:Int)≤(IntKind.i64.wrap j).tmod z2∧(IntKind.i64.wrap j).tmod z2≤(((6:Nat)):Int))∧(zg P (⟨O1,N1,G⟩) (Builtin.append) ((some 32)) ((some 32)) ([s1,.slc Nc 0 0 (((IntKind.i64.wrap j).tmod z2).toNat - 0) 6])=(some (.val s2 ⟨O2,N2,G⟩)))∧(xB P (⟨O2,N2,G⟩) (33) (prq0) ((some ((IntKind.i64.wrap j).tmod z2))) (none) (none)=(some s3))∧(zg P (⟨O2,N2,G⟩) (Builtin.append) ((some 33)) ((some 33)) ([.nils 0 0,s3])=(some (.val s4 ⟨O3,N3,G⟩)))∧(xB P (⟨O3,N3,G⟩) (33) (prq0) (none) ((some ((IntKind.i64.wrap j).tmod z2))) (none)=(some s5))∧(zg P (⟨O3,N3,G⟩) (Builtin.append) ((some 33)) ((some 33)) ([s4,s5])=(some (.val s6 ⟨O4,N4,G⟩)))∧K (AM.mk (enF 22 [s2,s6]) [Ftrc_a__a_n prq0 crq1 prq1 s2 s6] ⟨O4,N4,G⟩))))=OT 7 R 0 K (.ex fun z1:Int=>(.seq [.run 11,.hopn (.int .i64 z1) O (N),.run 2] (.fork 30 (.seq [.run 6] (.fork 33 (.seq [.run 1,.keep [33,34],.run 1] .fin) (.seq [.run 7,.done] .fin))) (.ex fun z2:Int=>(.ex fun s1:AV=>(.ex fun O1:T AObj=>(.ex fun N1:Nat=>(.ex fun s2:AV=>(.ex fun O2:T AObj=>(.ex fun N2:Nat=>(.ex fun s3:AV=>(.ex fun s4:AV=>(.ex fun O3:T AObj=>(.ex fun N3:Nat=>(.ex fun s5:AV=>(.ex fun s6:AV=>(.ex fun O4:T AObj=>(.ex fun N4:Nat=>(.seq [.run 7,.hopn (.int .i64 z2) O (N),.op,.run 11,.op,.hopn (s1) O1 (N1),.run 7,.op,.hopn (s2) O2 (N2),.run 11,.hop (s3) O2,.hopn (s4) O3 (N3),.run 7,.hop (s5) O3,.hopn (s6) O4 (N4),.run 6,.keep [5,7,8,64,65],.run 1] .fin))))))))))))))))))) ((AM.mk (RF 22 85 (tX (tX tZ (tY (.int .i64 crq1))) (tX (tY prq1) tZ)) td) ((Ftrc_a_ Nc j prq0 z1c)::[]) ⟨O,N,G⟩)):=by kernel_rfl
theorem t_trc_a__a_yy_a_:((R (.bool (lrq2==([(123:UInt8),(125:UInt8)]:List UInt8))) (⟨O,N,G⟩)))=OT 7 R 0 K (.seq [.run 6,.done] .fin) ((AM.mk (RF 16 8 (tX tZ (tY (.str lrq2))) td) ((Ftrc_a__a_yy prq1)::[]) ⟨O,N,G⟩)):=by kernel_rfl
theorem t_trc_a__a_n_a_:((((crq1==crq2))=true→(K (AM.mk (enF 18 [prq1,prq2]) [Ftrc_a__a_n_a_y prq0 crq1 prq1 prq2] ⟨O,N,G⟩)))∧(((crq1==crq2))=false→((R (.bool false) (⟨O,N,G⟩)))))=OT 7 R 0 K (.seq [.run 13] (.fork 72 (.seq [.run 2,.keep [5,7,8,72,73,74],.run 1] .fin) (.seq [.run 26,.done] .fin))) ((AM.mk (RF 22 85 (tX (tX tZ (tY (.int .i64 crq2))) (tX (tY prq2) tZ)) td) ((Ftrc_a__a_n prq0 crq1 prq1 s2c s6c)::[]) ⟨O,N,G⟩)):=by kernel_rfl
theorem t_trc_a__a_n_a_y_a_:(((blq3)=true→((((crq1 != (0:Int)))=true→((R (.bool true) (⟨O,N,G⟩))))∧(((crq1 != (0:Int)))=false→(K (AM.mk (enF 12 [prq1]) [Ftrc_a__a_n_a_y_a_yn prq0 prq1] ⟨O,N,G⟩)))))∧((blq3)=false→((R (.bool false) (⟨O,N,G⟩)))))=OT 7 R 0 K (.seq [.run 3] (.fork 77 (.seq [.run 3] (.fork 80 (.seq [.run 18,.done] .fin) (.seq [.run 1,.keep [5,7,77,80,81],.run 1] .fin))) (.seq [.run 21,.done] .fin))) ((AM.mk (RF 18 18 (tX tZ (tX (tY (.bool blq3)) tZ)) td) ((Ftrc_a__a_n_a_y prq0 crq1 prq1 prq2)::[]) ⟨O,N,G⟩)):=by kernel_rfl
theorem t_trd:((((crq4==(0:Int)))=true→(∃ (z1:Int) (z2:Int),(lC O N G m 2 sn2)∧(lN O N G 32 sn2 z1)∧(lN O N G 33 prq0 z2)∧(R (.bool (z1==z2)) (⟨O,N,G⟩))))∧(((crq4==(0:Int)))=false→((R (.bool false) (⟨O,N,G⟩)))))=OT 7 R 0 K (.seq [.run 3] (.fork 84 (.ex fun z1:Int=>(.ex fun z2:Int=>(.seq [.run 3,.hop (sn2) O,.hopn (.int .i64 z1) O (N),.run 1,.hopn (.int .i64 z2) O (N),.run 7,.done] .fin))) (.seq [.run 14,.done] .fin))) ((AM.mk (RF 12 14 (tX tZ (tY (.int .i64 crq4))) td) ((Ftrc_a__a_n_a_y_a_yn prq0 (.ptr m 0 0))::[]) ⟨O,N,G⟩)):=by kernel_rfl
end
theorem works20 {G:T (T AV)}:Goal P 0 20 (fun x _=>x=AV.bool true) (zni P 20 [] G):=Goal.ofRun mix (n:=100000) (by kernel_rfl) fun _=>rfl
variable {O O':T AObj} {N:Nat} {G:T (T AV)}
def nm6:List zi:=[[97],[98],[99],[95],[122,57],[66]]
theorem nm6_ok (O:T AObj)(N:Nat)(G:T (T AV)):∃ O1,zf P ⟨O,N,G⟩ 32 6 [(0,.str [UInt8.ofNat (97)]),(1,.str [UInt8.ofNat (98)]),(2,.str [UInt8.ofNat (99)]),(3,.str [UInt8.ofNat (95)]),(4,.str [UInt8.ofNat (122),UInt8.ofNat (57)]),(5,.str [UInt8.ofNat (66)])]=some (.slc N 0 0 6 6,⟨O1,N+1,G⟩)∧Obj O1 N (nm6.flatMap sE)∧Frm O O1 N:=by
  obtain ⟨O1,e,b,f⟩:=Obj.mk (c:=zd .leaf 0 (nm6.flatMap sE)) (el:=9) (nm6.flatMap sE) O N 6 rfl (fun k hk=>by rcases k with _ | _ | _ | _ | _ | _ | k <;> first | rfl | omega)
  refine ⟨O1,?_,b,f⟩
  rw [← e]
  rfl
theorem nm_sub {id hi a n c:Nat}(ob:Obj O id (nm6.flatMap sE))(hi':id<hi)(ha:a+n≤6)(hc:n≤c):SV O 1 sE 0 hi ((nm6.drop a).take n) (.slc id 0 a n c):=by
  have rd:Rd O id 0 0 (nm6.flatMap sE):=Rd.ofRow ob (Nat.le_refl _) (fun k hk=>by rw [List.getElem?_eq_getElem hk,List.getD_eq_getElem?_getD,List.getElem?_eq_getElem hk]; rfl)
  have rd2:=rd.sub (a:=a) (n:=n) ha
  rw [Nat.zero_add] at rd2
  have e:((nm6.flatMap sE).drop a).take n=((nm6.drop a).take n).flatMap sE:=by
    have:=sEn.drop nm6 a
    rw [Nat.mul_one] at this
    rw [this]
    have:=sEn.take (nm6.drop a) n (by rw [List.length_drop]; have:nm6.length=6:=rfl; omega)
    rwa [Nat.mul_one] at this
  rw [e] at rd2
  have hl:((nm6.drop a).take n).length=n:=by rw [List.length_take,List.length_drop]; have:nm6.length=6:=rfl; omega
  exact .inr (.inl ⟨id,0,a,c,by rw [hl],by rw [hl]; exact hc,Nat.zero_le _,hi',rd2⟩)
theorem rot_len {n:Nat}(h:n≤6):(nm6.take n).length=n:=by
  rw [List.length_take]
  have:nm6.length=6:=rfl
  omega
theorem none_rec:y8 [] []=(0,.mk 7 [] [] [] .no):=by
  unfold y8
  rw [if_pos ⟨rfl,rfl⟩,recS_nil]
  unfold zbT
  simp [xF,zac,zeW]
theorem none_txt:zpP (.mk 7 [] [] [] .no)=[123,125]:=by
  unfold zpP
  rw [if_pos (by unfold chk; simp [isNo,xF,zac,zeW,zeC,jz,own,okK,wP]),ziC]
  simp [txt,xg,zdu]
theorem recT_bad {ns:List zi}{ts:List Ty}(h:(y8 ns ts).1≠0):(y8 ns ts).2=.no:=by
  unfold y8 at h ⊢
  split
  · rename_i hc
    rw [if_pos hc] at h
    split
    · rfl
    · rename_i xs us hr
      rw [hr] at h
      have h2:(zbT (.mk 7 [] xs us .no)).1≠0:=h
      show (zbT (.mk 7 [] xs us .no)).2=.no
      unfold zbT at h2 ⊢
      split
      · rfl
      · rename_i hs
        rw [if_neg hs] at h2
        exact absurd rfl h2
  · rfl
theorem tm_of {j:Int}{n:Nat}(h:0≤j∧j≤255)(hn:0<n):(IntKind.i64.wrap j).tmod ((n:Nat):Int)=((j.toNat % n:Nat):Int):=by
  have e:IntKind.i64.wrap j=j:=by rw [IntKind.wrap_i64]; omega
  rw [e,Int.tmod_eq_emod_of_nonneg h.1]
  have:=Int.toNat_of_nonneg h.1
  rw [Int.natCast_emod,this]
theorem records_goal {O:T AObj}{N:Nat}{xs:List UInt8}{sa:AV}{j:Int}(hx:SVe O N xs sa)(hj:0≤j∧j≤255):Goal P 0 7 (fun v _=>v=.bool true) (AM.mk (enF 7 [sa,.int .u8 j]) [] ⟨O,N,.leaf⟩):=by
  obtain ⟨us,hu5,ls⟩:=znI xs
  refine ot t_trc ⟨works20,?_⟩
  refine ls hx (Nat.le_refl _) fun O1 N1 td1 ps s ex1 sv hl tr=>?_
  obtain ⟨O2,e2,b2,f2⟩:=nm6_ok O1 N1 .leaf
  have x2:Ext O1 N1 O2 (N1+1):=⟨Nat.le_succ _,fun k hk=>f2 k (by omega)⟩
  have sv2:SV O2 1 pE 0 (N1+1) ps s:=sv.keep (fun k _ hk=>x2.2 k (by omega)) (Nat.zero_le _) (Nat.le_succ _)
  have tr2:∀ (k:Nat) (x:Ty) (p:Option Nat),us[k]?=some x→ps[k]?=some p→Tr O2 (N1+1) x p:=fun k x p a b=>((tr k x p a b).ext x2 (Nat.le_refl _)).same (fun _ _=>rfl) (Nat.le_succ _)
  refine ot t_trc_a_ ⟨O2,((ps.length:Nat):Int),e2,sv2.len pSl _ _,⟨by omega,by omega⟩,?_⟩
  have hnm:nm6.length=6:=rfl
  have hn2:SV O2 1 sE 0 (N1+1) (nm6.take ps.length) (.slc N1 0 0 ps.length 6):=nm_sub (a:=0) b2 (Nat.lt_succ_self _) (by omega) (by omega)
  refine zgn (sn:=.slc N1 0 0 ps.length 6) hn2 sv2 hl (by omega) (fun _=>by rw [rot_len (by omega)]; omega) tr2 (Nat.le_refl _) fun O3 N3 td3 p ex3 t3=>?_
  have x3:=x2.trans ex3
  have sv3:=sv2.keep (O':=O3) (fun k _ hk=>ex3.2 k hk) (Nat.le_refl 0) (Nat.le_refl (N1+1))
  refine ot t_trc_a__a_ ⟨_,sv3.len pSl _ _,fun h0=>?_,fun h0=>?_⟩
  · have h0':ps.length=0:=by have:=eq_of_beq h0; omega
    obtain rfl:us=[]:=List.length_eq_zero_iff.1 (by omega)
    rw [h0'] at t3 ⊢
    have e:nm6.take 0=[]:=rfl
    rw [e,none_rec] at t3 ⊢
    refine ⟨fun _=>?_,fun h=>absurd h (by decide)⟩
    refine ziN t3 (Nat.le_refl _) fun O4 N4 td4 ex4=>?_
    refine ot t_trc_a__a_yy_a_ ?_
    rw [none_txt]
    rfl
  · have hn0:0<ps.length:=by
      have:((ps.length:Nat):Int)≠0:=by simpa using h0
      omega
    obtain ⟨kk,hkk,hlt⟩:∃ kk:Nat,(IntKind.i64.wrap j).tmod ((ps.length:Nat):Int)=((kk:Nat):Int)∧kk<ps.length:=⟨_,tm_of hj hn0,Nat.mod_lt _ hn0⟩
    have b3:=b2.same (ex3.2 N1 (Nat.lt_succ_self _))
    have n31:=ex3.1
    -- the names,turned
    have q1:=nm_sub (a:=kk) (n:=ps.length - kk) (c:=6 - kk) b3 (Nat.lt_succ_self _) (by omega) (by omega)
    obtain ⟨O4,N4,s1,e4,g4,n4,m4,f4,h4⟩:=(GV.nil (el:=9) (lo:=N3) (hi:=N3) (O:=O3):GV O3 9 1 sE N3 N3 [] (.nils 0 0)).app sSl sEn q1 (Nat.le_refl _) (by rw [List.length_take]; simp only [List.length_nil]; omega) .leaf
    have x4:Ext O3 N3 O4 N4:=⟨n4,fun k hk=>f4 k hk (fun h=>absurd rfl h)⟩
    have q2:=nm_sub (a:=0) (n:=kk) (c:=6) (b3.same (x4.2 N1 (by omega))) (Nat.lt_succ_self _) (by omega) (by omega)
    obtain ⟨O5,N5,s2,e5,g5,n5,m5,f5,h5⟩:=g4.app sSl sEn q2 (by omega) (by simp only [List.length_append,List.length_take,List.length_nil]; omega) .leaf
    have x5:Ext O3 N3 O5 N5:=⟨by omega,fun k hk=>(f5 k (by omega) (fun h=>by have:=(g4.sid_lt h).1; omega)).trans (x4.2 k hk)⟩
    -- the types,turned
    have sv5:=sv3.keep (O':=O5) (fun k _ hk=>x5.2 k (by omega)) (Nat.le_refl 0) (Nat.le_refl (N1+1))
    obtain ⟨s3,e3,r3,_⟩:=sv5.sub pSl pEn (a:=kk) (b:=ps.length) (by omega) (Nat.le_refl _) (some ((kk:Nat):Int)) none (.inl rfl) (.inr ⟨rfl,rfl⟩) N5 .leaf
    obtain ⟨O6,N6,s4,e6,g6,n6,m6,f6,h6⟩:=(GV.nil (el:=23) (lo:=N5) (hi:=N5) (O:=O5):GV O5 23 1 pE N5 N5 [] (.nils 0 0)).app pSl pEn r3 (Nat.le_refl _) (by rw [List.length_take,List.length_drop]; simp only [List.length_nil]; omega) .leaf
    have x6:Ext O5 N5 O6 N6:=⟨n6,fun k hk=>f6 k hk (fun h=>absurd rfl h)⟩
    have sv6:=sv5.keep (O':=O6) (fun k _ hk=>x6.2 k (by omega)) (Nat.le_refl 0) (Nat.le_refl (N1+1))
    obtain ⟨s5,e7,r7,_⟩:=sv6.sub pSl pEn (a:=0) (b:=kk) (by omega) (by omega) none (some ((kk:Nat):Int)) (.inr ⟨rfl,rfl⟩) (.inl rfl) N6 .leaf
    obtain ⟨O7,N7,s6,e8,g7,n7,m7,f7,h7⟩:=g6.app pSl pEn r7 (by omega) (by simp only [List.length_append,List.length_take,List.length_drop,List.length_nil]; omega) .leaf
    have x7:Ext O5 N5 O7 N7:=⟨by omega,fun k hk=>(f7 k (by omega) (fun h=>by have:=(g6.sid_lt h).1; omega)).trans (x6.2 k hk)⟩
    have x57:=x5.trans x7
    refine ⟨((ps.length:Nat):Int),s1,O4,N4,s2,O5,N5,s3,s4,O6,N6,s5,s6,O7,N7,sv3.len pSl _ _,by omega,by rw [hkk]; exact ⟨by omega,by show ((kk:Nat):Int)≤((ps.length:Nat):Int); omega⟩,?_,by rw [hkk]; exact ⟨by omega,by omega⟩,?_,by rw [hkk]; exact e3,e6,by rw [hkk]; exact e7,e8,?_⟩
    · rw [hkk]
      show zg P _ _ _ _ [_,.slc N1 0 (if 6=kk then 0 else 0+kk*1) (ps.length - kk) (6 - kk)]=_
      rw [if_neg (by omega),Nat.zero_add,Nat.mul_one]
      exact e4
    · rw [hkk]
      exact e5
    have gn:=(g5.sv sEn).keep (O':=O7) (lo':=0) (hi':=N7) (fun k _ hk=>x7.2 k hk) (Nat.zero_le _) x7.1
    have gp:=(g7.sv pEn).keep (O':=O7) (lo':=0) (hi':=N7) (fun _ _ _=>rfl) (Nat.zero_le _) (Nat.le_refl _)
    rw [List.nil_append] at gn gp
    have xx:=ex3.trans x57
    have tr7:∀ (k:Nat) (x:Ty) (p:Option Nat),us[k]?=some x→ps[k]?=some p→Tr O7 N7 x p:=fun k x p a b=>((tr2 k x p a b).ext xx (Nat.le_refl _)).same (fun _ _=>rfl) xx.1
    have d1:(ps.drop kk).take (ps.length - kk)=ps.drop kk:=List.take_of_length_le (by rw [List.length_drop]; omega)
    rw [d1,List.drop_zero,Nat.sub_zero] at gp
    rw [List.drop_zero] at gn
    have a1:nm6.take ps.length=nm6.take kk++(nm6.drop kk).take (ps.length - kk):=by
      have:=(List.take_append_drop kk (nm6.take ps.length)).symm
      rwa [List.take_take,Nat.min_eq_left (by omega),List.drop_take] at this
    have er:y8 ((nm6.drop kk).take (ps.length - kk)++nm6.take kk) (us.drop kk++us.take kk)=y8 (nm6.take ps.length) us:=by
      rw [zlZ (by rw [List.length_take,List.length_take]; omega) (by rw [List.length_take,List.length_drop,List.length_drop]; omega),← a1,List.take_append_drop]
    refine zgn (ns:=(nm6.drop kk).take (ps.length - kk)++nm6.take kk) (ts:=us.drop kk++us.take kk) (ps:=ps.drop kk++ps.take kk) gn gp (by simp only [List.length_append,List.length_take,List.length_drop]; omega) (by simp only [List.length_append,List.length_take,List.length_drop]; omega) (fun _=>by simp only [List.length_append,List.length_take,List.length_drop]; omega) (zcz (by rw [List.length_drop,List.length_drop]; omega) (fun k x q a b=>?_) (fun k x q a b=>?_)) (Nat.le_refl _) fun O8 N8 td8 p2 ex8 t8=>?_
    · rw [List.getElem?_drop] at a b
      exact tr7 _ x q a b
    · rw [List.getElem?_take] at a b
      split at a
      · rename_i hk
        rw [if_pos hk] at b
        exact tr7 _ x q a b
      · cases a
    rw [er] at t8 ⊢
    refine ot t_trc_a__a_n_a_ ⟨fun _=>?_,fun h=>absurd h (by simp)⟩
    have x38:Ext O3 N3 O8 N8:=x57.trans ex8
    have t38:=(t3.ext x38 (Nat.le_refl _)).same (O':=O8) (fun _ _=>rfl) x38.1
    refine zkb t38 t8 (Nat.le_refl _) fun O9 N9 td9 b9 hb9 ex9=>?_
    have hc:(y8 (nm6.take ps.length) us).1=0→cnt (y8 (nm6.take ps.length) us).2≤60:=fun h=>(tp.chk_ok (zd2 h).1).2
    refine ot t_trc_a__a_n_a_y_a_ ⟨fun hb=>⟨fun _=>rfl,fun h0=>?_⟩,fun hb=>?_⟩
    · have h0':(y8 (nm6.take ps.length) us).1=0:=by simpa using h0
      obtain ⟨hch,ys,vs,hy,hyl⟩:=zd2 h0'
      have t9:=(t38.ext ex9 (Nat.le_refl _))
      refine gx.chk_ok t9 ex9.1 fun O10 N10 td10 ex10=>?_
      have t10:=t9.ext ex10 ex9.1
      rw [hy] at t10
      obtain ⟨id,sn,sb,pq,q,rfl,hid,hob,hsn,_⟩:=t10.inv
      rw [hch]
      have sv10:=sv3.keep (O':=O10) (fun k _ hk=>(ex10.2 k (by have:=ex9.1; have:=x38.1; omega)).trans ((ex9.2 k (by have:=x38.1; omega)).trans (x38.2 k (by omega)))) (Nat.le_refl 0) (Nat.le_refl (N1+1))
      refine ot (t_trd (sn2:=sn)) ⟨fun _=>⟨_,_,hob.ld 2 rfl,hsn.len sSl _ _,sv10.len pSl _ _,?_⟩,fun h=>absurd h (by decide)⟩
      rw [hyl,rot_len (by omega)]
      simp
    · exfalso
      have:b9=true:=by
        by_cases h0:(y8 (nm6.take ps.length) us).1=0
        · exact hb9.2 ⟨hc h0,hc h0,rfl⟩
        · have e:(y8 (nm6.take ps.length) us).2=.no:=recT_bad h0
          refine hb9.2 ⟨?_,?_,rfl⟩ <;> rw [e,zeW] <;> omega
      rw [this] at hb
      cases hb
end Go.Proofs.Ytcdigdplhlgcaaa.gx
namespace Go.Proofs.Ytcdigdplhlgcaaa.tyRecords
open Go Go.ChangeShapes Go.WideShapes Go.ChangeAt Go.RowKit Go.ChangeMaps
open Ev gx
theorem own:ownKnob Try.prog.godebug=none:=by kernel_rfl
/-! ### The row's step -/
theorem lifted (os:Os)(started:os.Started)(H:Type)(enc:TypeId × Value→H) :
    ReturnsInHanded {} Try.checked os 7 .any (Rows.tyRecordsSpec.pre6 enc Try.prog Try.f7 Rows.tyRecordsRow.domain false) (Rows.tyRecordsSpec.post enc Try.prog Try.f7 false true false false):=by
  refine returnsInHanded_of_change (C:=Try.checked) own started (by kernel_rfl) Try.func7
    (ChangeSpec.witness6 (enc:=enc) (C:=Try.checked) false ⟨#[],#[.slice none 0 0,.int .u8 0],[]⟩ 8 (by kernel_rfl) (by kernel_rfl) (by kernel_rfl) (by kernel_rfl)) ?_
  intro W base args ds gs before hval0 hW hcnd _
  have hval:∀ (j:Nat) t v,Try.f7.params[j]?=some t→args[j]?=some v→Value.okWide Try.prog W .any base t v:=hval0
  have hW':=hW
  obtain ⟨p,q,hA0,hV,rfl,hfz,hnd⟩:=hW
  have hA:DataW.TrodAll enc Try.prog W 0 (fun _=>true) true Try.f7.params.toList args.toList ds p:=hA0
  rw [Try.params7] at hA hval
  obtain ⟨v0,vs0,d0,ds0,p0,q0,hargs,rfl,rfl,h0,r0⟩:=trodAll_cons hA
  obtain ⟨v1,vs1,d1,ds1,p1,q1,rfl,rfl,rfl,h1,r1⟩:=trodAll_cons r0
  obtain ⟨rfl,rfl,rfl⟩:=trodAll_nil r1
  obtain rfl:args=#[v0,v1]:=by cases args; simp_all
  obtain ⟨rfl,rfl⟩:=trodVars_none hV
  obtain ⟨x0,s0,xs0,hi0,hv0⟩:=zlt (Ev.in_ints Try.underlying22 Try.underlying5 (by kernel_rfl) (hval 0 22 v0 rfl rfl) h0)
  obtain ⟨j,rfl,_,_,wj⟩:=open_int (k:=.u8) (by kernel_rfl) (hval 1 5 v1 rfl rfl) h1
  let l:List Inp:=[x0]
  have hG:zlR .leaf W:=fun g c e=>by cases e
  have run:Calls Try.prog 7 #[v0,.int .u8 j] W fun r w'=>r=.returned (.bool true)∧Old W w' :=
    zkH (f:=7) (args:=[s0 0,.int .u8 j]) (a:=enF 7 [s0 0,.int .u8 j]) (l:=l) (G:=.leaf) (vs:=[v0,.int .u8 j]) (by kernel_rfl) hG
      (fun x hx=>by
        simp only [l,List.mem_cons,List.not_mem_nil,or_false] at hx
        rcases hx with rfl <;> assumption)
      ⟨_,_,rfl,(hv0 l 0 .leaf rfl).1,_,_,rfl,rfl,rfl⟩
      (records_goal (hv0 l 0 .leaf rfl).2 (bounds_u8 wj))
  refine run.mono fun e W' ⟨he,hg⟩=>?_
  subst he
  exact ⟨_,rfl,Ev.post_law (by kernel_rfl) (by kernel_rfl) rfl Try.underlying4 rfl hW' rfl hg⟩
theorem held:Rows.tyRecordsRow.holds Try.pinned (OpenSpec.ofChange Rows.tyRecordsSpec) :=
  OpenClaim.holds_of_wide 7 Try.f7 rfl rfl rfl rfl rfl rfl rfl ⟨rfl,rfl,rfl,rfl,rfl⟩ rfl rfl rfl rfl rfl (by kernel_rfl) Try.func7 (by kernel_rfl)
    (of_decide_eq_true (by kernel_rfl)) (by unfold Func.isWrapper; first | (rw [if_pos (by decide +kernel)]; kernel_rfl) | (rw [if_neg (by decide +kernel)]; exact ⟨rfl,rfl⟩))
    (fun os started H enc _=>lifted os started H enc)
/-- The statement. -/
theorem proved:Rows.TyRecordsSaid :=
  held
#print axioms proved
end Go.Proofs.Ytcdigdplhlgcaaa.tyRecords
