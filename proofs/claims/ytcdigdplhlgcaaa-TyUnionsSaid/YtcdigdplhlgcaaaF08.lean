import Derived.Test.YtcdigdplhlgcaaaF00
import Derived.Test.YtcdigdplhlgcaaaF01
import Derived.Test.YtcdigdplhlgcaaaF02
import Derived.Test.YtcdigdplhlgcaaaF03
import Derived.Test.YtcdigdplhlgcaaaF04
import Derived.Test.YtcdigdplhlgcaaaF05
import Derived.Test.YtcdigdplhlgcaaaF06
import Derived.Test.YtcdigdplhlgcaaaF07
section
set_option maxRecDepth 100000
set_option linter.unusedVariables false
set_option linter.unusedSectionVars false
set_option linter.unusedSimpArgs false
namespace Go.Proofs.Ytcdigdplhlgcaaa.gx
open Go Ev tp
section
variable (sa:AV) (n j:Int) (rest:List AFrame) (O:T AObj) (N:Nat) (G:T (T AV)) (s1 v:AV)
noncomputable def Wsm:AM:=⟨⟨55,17,(tX (tW (tX (tY sa) tZ) (.fn (Fn.func (56:FuncId)) [] []) (tX (tY (.int .i64 j)) tZ)) (tX (tX (tY (.int .i64 n)) tZ) tZ)),   [.code (cd P 55 [1,0,1,0,0]),.inLoop (cd P 55 [1,0,1,0,0]),.inBlock 0,.code (cd P 55 [1,1])],[],.run,CallKind.normal,none⟩,rest,⟨O,N,G⟩⟩
noncomputable def zny:AFrame:=⟨55,17,(tX (tW (tX (tY sa) tZ) (.fn (Fn.func (56:FuncId)) [] []) (tX (tY (.int .i64 j)) (tY (.fn (Fn.func (56:FuncId)) [] [])))) (tX (tX (tY (.int .i64 n)) tZ) (tX tZ (tY s1)))),   [.ops (rg P 55 [1,0,1,0,0,1,1,0,0,1,0]).toList ((rg P 55 [1,0,1,0,0,1,1,0,0,1,0]).toList.drop 2),.code (cd P 55 [1,0,1,0,0,1,1,0,0,1,1]),.inBlock 1,.code (cd P 55 [1,0,1,0,0,1,1,1]),.inLoop (cd P (55:FuncId) [1,0,1,0,0]),.inBlock 0,.code (cd P (55:FuncId) [1,1])],[],.run,CallKind.normal,none⟩
noncomputable def Fmnt:AFrame:=⟨56,6,(tX (tX (tY v) tZ) tZ),   [.ops (rg P 56 [1,0]).toList ((rg P 56 [1,0]).toList.drop 1),.code (cd P 56 [1,1])],[],.run,CallKind.normal,none⟩
noncomputable def Fw61:AFrame:=⟨61,8,(tW tZ v (tX (tY v) tZ)),   [.ops (rg P 61 [1,0,0]).toList ((rg P 61 [1,0,0]).toList.drop 1),.code (cd P 61 [1,0,1]),.code (cd P 61 [1,1])],[],.run,CallKind.normal,none⟩
end
section
variable {R:AV→AHeap→Prop} {keep N Nc:Nat} {f0:FuncId} {rest:List AFrame} {O:T AObj} {v sa s1c prq2 prq3:AV} {G:T (T AV)} {K:AM→Prop} {td:List AItem} {blq0 blq1:Bool} {n j crq0 crq3:Int}
theorem t_mnt:(K (AM.mk (enF 46 [v]) ((Fmnt v)::rest) ⟨O,N,G⟩))=OT f0 R keep K (.seq [.run 7,.keep [3],.run 1] .fin) ((AM.mk (enF 56 [v]) rest ⟨O,N,G⟩)):=by kernel_rfl
theorem zmX:(K (AM.mk (RF 56 6 (tX tZ (tY (.bool !blq0))) [.code (cd P (56:FuncId) [1,1])]) rest ⟨O,N,G⟩))=OT f0 R keep K (.seq [.run 5,.keep [2]] .fin) ((AM.mk (RF 46 6 (tX tZ (tY (.bool blq0))) td) ((Fmnt v)::rest) ⟨O,N,G⟩)):=by kernel_rfl
theorem zpe:(∃ (z1:Int),(lN O N G 33 sa z1)∧K (Wsm sa z1 0 rest O N G))=OT f0 R keep K (.ex fun z1:Int=>(.seq [.run 8,.hopn (.int .i64 z1) O (N),.run 4,.keep [1,7,8,9]] .fin)) ((AM.mk (enF 55 [sa,.fn (Fn.func 56) [] []]) rest ⟨O,N,G⟩)):=by kernel_rfl
theorem zn3:(((decide (j<n))=true→(∃ (i1:Nat) (i2:Nat) (i3:Nat) (s1:AV),(iX 33 sa j i1 i2 i3)∧(lR O N G i1 i2 i3 s1)∧K (AM.mk (enF 56 [s1]) ((zny sa n j s1)::rest) ⟨O,N,G⟩)))∧((decide (j<n))=false→(K (AM.mk (RF 55 17 (tX tZ (tX (tY (.bool false)) tZ)) [.code (cd P 55 [1,0,1,0,0,1,1,0,0,1,1,0,1])]) rest ⟨O,N,G⟩))))=OT f0 R keep K (.seq [.run 5] (.fork 10 (.ex fun i1:Nat=>(.ex fun i2:Nat=>(.ex fun i3:Nat=>(.ex fun s1:AV=>(.seq [.run 6,.hopn (.ptr i1 i2 i3) O (N),.hop (s1) O,.run 6,.keep [1,7,8,9,13,14],.run 1] .fin))))) (.seq [.run 7,.keep [4]] .fin))) ((Wsm sa n j rest O N G)):=by kernel_rfl
theorem zis:(((blq0)=true→(K (AM.mk (RF 55 17 (tX tZ (tX (tY (.bool true)) tZ)) [.code (cd P 56 [1,1]),.inBlock 1,.code (cd P (55:FuncId) [1,0,1,0,0,1,1,1]),.inLoop (cd P (55:FuncId) [1,0,1,0,0]),.inBlock 0,.code (cd P (55:FuncId) [1,1])]) rest ⟨O,N,G⟩)))∧((blq0)=false→(K (Wsm sa n (IntKind.i64.wrap (j+(1:Int))) rest O N G))))=OT f0 R keep K (.seq [.run 2] (.fork 15 (.seq [.run 6,.keep [4]] .fin) (.seq [.run 8,.keep [1,7,8,9]] .fin))) ((AM.mk (RF 56 6 (tX tZ (tY (.bool blq0))) td) ((zny sa n j s1c)::rest) ⟨O,N,G⟩)):=by kernel_rfl
theorem t_w61:(K (AM.mk (enF 14 [v]) ((Fw61 v)::rest) ⟨O,N,G⟩))=OT f0 R keep K (.seq [.run 9,.keep [0,4],.run 1] .fin) ((AM.mk (enF 61 [v]) rest ⟨O,N,G⟩)):=by kernel_rfl
theorem zhw:(((decide (crq0 > (60:Int)))=true→(K (AM.mk (RF 61 8 (tX (tX (tY (.int .i64 3)) tZ) (tY .nilp)) [.code (cd P 14 [1,1,1,1]),.code (cd P (61:FuncId) [1,1])]) rest ⟨O,N,G⟩)))∧((decide (crq0 > (60:Int)))=false→(K (AM.mk (RF 61 8 (tX (tX (tY (.int .i64 0)) tZ) (tY v)) [.code (cd P 14 [1,1,1,1])]) rest ⟨O,N,G⟩))))=OT f0 R keep K (.seq [.run 3] (.fork 6 (.seq [.run 7,.keep [2,3]] .fin) (.seq [.run 9,.keep [2,3]] .fin))) ((AM.mk (RF 14 12 (tX tZ (tY (.int .i64 crq0))) td) ((Fw61 v)::rest) ⟨O,N,G⟩)):=by kernel_rfl
end
variable {O O':T AObj} {N:Nat} {G:T (T AV)}
theorem zsd {t:Ty}{p:Option Nat}{hi:Nat}(ht:Tr O hi t p)(hN:hi≤N){keep:Nat}{f0:FuncId}{Q:AV→AHeap→Prop}{rest:List AFrame}
 (hK:∀ O' N' td,Ext O N O' N'→Goal P keep f0 Q (AM.mk (RF 56 6 (tX tZ (tY (.bool (!(chk t==0))))) td) rest ⟨O',N',G⟩)):Goal P keep f0 Q (AM.mk (enF 56 [pv p]) rest ⟨O,N,G⟩):=by
 refine ot t_mnt ?_
 refine ot zqI ?_
 refine gx.chk_ok ht hN fun O1 N1 td1 ex1=>?_
 refine ot zlZ ?_
 exact ot zmX (hK O1 N1 _ ex1)
theorem zsv {ts:List Ty}{ps:List (Option Nat)}{sa:AV}{hi:Nat}(hs:SV O 1 pE 0 hi ps sa)(hl:ps.length=ts.length)(hm:ts.length<1000000)(ht:∀ (j:Nat) (x:Ty) (p:Option Nat),ts[j]?=some x→ps[j]?=some p→Tr O hi x p)(hN:hi≤N){keep:Nat}{f0:FuncId}{Q:AV→AHeap→Prop}{rest:List AFrame}
 (hK:∀ O' N' td,Ext O N O' N'→Goal P keep f0 Q (AM.mk (RF 55 17 (tX tZ (tX (tY (.bool (ts.any (fun x=>!(chk x==0))))) tZ)) td) rest ⟨O',N',G⟩)):Goal P keep f0 Q (AM.mk (enF 55 [sa,.fn (Fn.func 56) [] []]) rest ⟨O,N,G⟩):=by
 have loop:∀ (c i:Nat) (O2:T AObj) (N2:Nat),i+c=ts.length→Ext O N O2 N2→ts.any (fun x=>!(chk x==0))=(ts.drop i).any (fun x=>!(chk x==0))→Goal P keep f0 Q (Wsm sa ((ps.length:Nat):Int) ((i:Nat):Int) rest O2 N2 G):=by
  intro c
  induction c with
  | zero =>
   intro i O2 N2 hi' ex hd
   refine ot zn3 (fkf (decide_eq_false (by omega)) ?_)
   have hf:ts.any (fun x=>!(chk x==0))=false:=by rw [hd,List.drop_of_length_le (by omega)]; rfl
   rw [hf] at hK
   exact hK O2 N2 _ ex
  | succ c ih =>
   intro i O2 N2 hi' ex hd
   obtain ⟨x,hx,_⟩:=nth (l:=ts) (j:=i) (by omega)
   obtain ⟨p,hp,_⟩:=nth (l:=ps) (j:=i) (by omega)
   refine ot zn3 (fkt (decide_eq_true (by omega)) ?_)
   obtain ⟨i1,i2,i3,lo59,hi59,eA59,rd59,_⟩:=(hs.keep (O':=O2) (fun j _ hj=>ex.2 j (by omega)) (Nat.le_refl 0) (Nat.le_refl hi)).at pSl pEn hp
   refine ⟨i1,i2,i3,_,eA59,rd59.load rfl _ _,?_⟩
   refine zsd ((ht i x p hx hp).ext ex hN) (Nat.le_trans hN ex.1) fun O3 N3 td3 ex3=>?_
   refine ot zis ⟨fun hc58=>?_,fun hc58=>?_⟩
   ·
    have hf:ts.any (fun x=>!(chk x==0))=true:=by rw [hd,zr hx,List.any_cons,hc58]; rfl
    rw [hf] at hK
    exact hK O3 N3 _ (ex.trans ex3)
   ·
    have nx:=ih (i+1) O3 N3 (by omega) (ex.trans ex3) (by rw [hd,zr hx,List.any_cons,hc58,Bool.false_or])
    rw [← zq (i:=i) (by omega)] at nx
    exact nx
 exact ot zpe ⟨_,hs.len pSl _ _,loop ts.length 0 O N (Nat.zero_add _) Ext.refl rfl⟩
theorem znh {t:Ty}{p:Option Nat}{hi:Nat}(ht:Tr O hi t p)(hN:hi≤N){keep:Nat}{f0:FuncId}{Q:AV→AHeap→Prop}{rest:List AFrame}
 (hK:∀ O' N' td p',Ext O N O' N'→Tr O' N' (zbR t).2 p'→Goal P keep f0 Q (AM.mk (RF 61 8 (tX (tX (tY (.int .i64 (zbR t).1)) tZ) (tY (pv p'))) td) rest ⟨O',N',G⟩)):Goal P keep f0 Q (AM.mk (enF 61 [pv p]) rest ⟨O,N,G⟩):=by
 refine ot t_w61 ?_
 refine zds ht hN fun O1 N1 td1 ex1=>?_
 by_cases h:60<cnt t
 ·have e:zbR t=(3,.no):=if_pos h
  rw [e] at hK
  exact ot zhw (fkt (decide_eq_true (by omega)) (hK O1 N1 _ none ex1 Tr.no))
 ·have e:zbR t=(0,t):=if_neg h
  rw [e] at hK
  exact ot zhw (fkf (decide_eq_false (by omega)) (hK O1 N1 _ p ex1 ((ht.ext ex1 hN).same (fun _ _=>rfl) (Nat.le_trans hN ex1.1))))
end Go.Proofs.Ytcdigdplhlgcaaa.gx
end
section
set_option maxRecDepth 100000
set_option linter.unusedVariables false
set_option linter.unusedSectionVars false
set_option linter.unusedSimpArgs false
namespace Go.Proofs.Ytcdigdplhlgcaaa.gx
open Go Ev tp
section
variable (n:Int) (sn:AV) (j j2:Int) (v:AV) (mk:Nat) (sl:AV) (rest:List AFrame) (O:T AObj) (N:Nat) (G:T (T AV)) (i1 i2 i3 i4 i5 i6:Nat) (l1 l2 w w2:List UInt8) (blq0:Bool) (z1 z2 crq0 z1c:Int)
noncomputable def Fcmp:AFrame:=⟨59,20,(tW (tW (tX (tY (.str w)) tZ) (.str w2) tZ) (.str w) tZ),   [.ops (rg P 59 [1,0]).toList ((rg P 59 [1,0]).toList.drop 1),.code (cd P 59 [1,1])],[],.run,CallKind.normal,none⟩
noncomputable def zkp:AFrame:=⟨59,20,(tW (tW tZ (.str w2) (tW (tY (.str w2)) (.bool blq0) tZ)) (.str w) tZ),   [.ops (rg P 59 [1,1,0]).toList ((rg P 59 [1,1,0]).toList.drop 1),.code (cd P 59 [1,1,1])],[],.run,CallKind.normal,none⟩
end
section
variable {R:AV→AHeap→Prop} {keep N mk i1c i2c i3c i4c i5c i6c:Nat} {f0:FuncId} {rest:List AFrame} {O:T AObj} {w w2 l1c l2c:List UInt8} {G:T (T AV)} {K:AM→Prop} {td:List AItem} {blq0 blq1:Bool} {j j2 crq0 n z1c z2c:Int} {sn sl v:AV}
theorem zsu:(K (AM.mk (RF 105 6 (tX tZ (tY (.bool (!w==w)))) [.code (cd P 105 [1,1])]) rest ⟨O,N,G⟩))=OT f0 R keep K (.seq [.run 12,.keep [2]] .fin) ((AM.mk (enF 105 [.str w]) rest ⟨O,N,G⟩)):=by kernel_rfl
theorem t_cmp:(K (AM.mk (enF 105 [.str w]) ((Fcmp w w2)::rest) ⟨O,N,G⟩))=OT f0 R keep K (.seq [.run 7,.keep [0,1,7],.run 1] .fin) ((AM.mk (enF 59 [.str w,.str w2]) rest ⟨O,N,G⟩)):=by kernel_rfl
theorem znm:(K (AM.mk (enF 105 [.str w2]) ((zkp w w2 blq0)::rest) ⟨O,N,G⟩))=OT f0 R keep K (.seq [.run 6,.keep [0,1,5,9],.run 1] .fin) ((AM.mk (RF 105 6 (tX tZ (tY (.bool blq0))) td) ((Fcmp w w2)::rest) ⟨O,N,G⟩)):=by kernel_rfl
theorem zf2:(((blq0)=true→(((blq1)=true→(K (AM.mk (RF 59 20 (tX tZ (tX (tY (.int .i64 0)) tZ)) [.code (cd P 105 [1,1]),.code (cd P 59 [1,1,1,0,1,0,1]),.code (cd P 59 [1,1,1,1])]) rest ⟨O,N,G⟩)))∧((blq1)=false→(K (AM.mk (RF 59 20 (tX tZ (tX (tY (.int .i64 (-1))) tZ)) [.code (cd P 105 [1,1]),.code (cd P 59 [1,1,1,1])]) rest ⟨O,N,G⟩)))))∧((blq0)=false→(((blq1)=true→(K (AM.mk (RF 59 20 (tX tZ (tX (tY (.int .i64 1)) tZ)) [.code (cd P 105 [1,1]),.code (cd P 59 [1,1,1,1,1])]) rest ⟨O,N,G⟩)))∧((blq1)=false→(((Op.bytesLess w w2)=true→(K (AM.mk (RF 59 20 (tX tZ (tX (tY (.int .i64 (-1))) tZ)) [.code (cd P 105 [1,1]),.code (cd P 59 [1,1,1,1,1,1])]) rest ⟨O,N,G⟩)))∧((Op.bytesLess w w2)=false→((((!(Op.bytesLess w w2 || w==w2)))=true→(K (AM.mk (RF 59 20 (tX tZ (tX (tY (.int .i64 1)) tZ)) [.code (cd P 105 [1,1]),.code (cd P 59 [1,1,1,1,1,1,1])]) rest ⟨O,N,G⟩)))∧(((!(Op.bytesLess w w2 || w==w2)))=false→(K (AM.mk (RF 59 20 (tX tZ (tX (tY (.int .i64 0)) tZ)) [.code (cd P 105 [1,1])]) rest ⟨O,N,G⟩))))))))))=OT f0 R keep K (.seq [.run 8] (.fork 11 (.seq [.run 6] (.fork 12 (.seq [.run 6,.keep [4]] .fin) (.seq [.run 7,.keep [4]] .fin))) (.seq [.run 7] (.fork 13 (.seq [.run 6,.keep [4]] .fin) (.seq [.run 9] (.fork 16 (.seq [.run 6,.keep [4]] .fin) (.seq [.run 9] (.fork 19 (.seq [.run 6,.keep [4]] .fin) (.seq [.run 7,.keep [4]] .fin))))))))) ((AM.mk (RF 105 6 (tX tZ (tY (.bool blq1))) td) ((zkp w w2 blq0)::rest) ⟨O,N,G⟩)):=by kernel_rfl
end
variable {O O':T AObj} {N:Nat} {G:T (T AV)}
theorem zqN {w w2:List UInt8}{keep:Nat}{f0:FuncId}{Q:AV→AHeap→Prop}{rest:List AFrame}(hK:∀ z td,(z<0 ↔ Op.bytesLess w w2=true)→Goal P keep f0 Q (AM.mk (RF 59 20 (tX tZ (tX (tY (.int .i64 z)) tZ)) td) rest ⟨O,N,G⟩)):Goal P keep f0 Q (AM.mk (enF 59 [.str w,.str w2]) rest ⟨O,N,G⟩):=by
 refine ot t_cmp ?_
 refine ot zsu ?_
 refine ot znm ?_
 refine ot zsu ?_
 refine ot zf2 (fkf ((by simp)) ?_)
 refine fkf ((by simp)) ?_
 refine ⟨fun hc2=>?_,fun hc2=>?_⟩
 ·
  exact hK _ _ ⟨fun _=>hc2,fun _=>by decide⟩
 ·
  refine ⟨fun hc3=>?_,fun hc3=>?_⟩
  ·
   exact hK _ _ ⟨fun h=>absurd h (by decide),fun h=>by rw [h] at hc2; cases hc2⟩
  ·
   exact hK _ _ ⟨fun h=>absurd h (by decide),fun h=>by rw [h] at hc2; cases hc2⟩
end Go.Proofs.Ytcdigdplhlgcaaa.gx
end
section
set_option maxRecDepth 100000
set_option linter.unusedVariables false
set_option linter.unusedSectionVars false
set_option linter.unusedSimpArgs false
namespace Go.Proofs.Ytcdigdplhlgcaaa.gx
open Go Ev tp
variable {O O':T AObj} {N:Nat} {G:T (T AV)}
theorem zmt {α β:Type}{f:α→β}{l:List α}{i:Nat}{k:α}(h:l[i]?=some k):(l.take (i+1)).map f=(l.take i).map f++[f k]:=by
 rw [List.take_add_one,h,List.map_append]; rfl
end Go.Proofs.Ytcdigdplhlgcaaa.gx
end
section
set_option maxRecDepth 100000
set_option linter.unusedVariables false
set_option linter.unusedSectionVars false
set_option linter.unusedSimpArgs false
namespace Go.Proofs.Ytcdigdplhlgcaaa.gx
open Go Ev tp
section
variable (n j j2:Int) (sl:AV) (jj:Int) (rest:List AFrame) (O:T AObj) (N:Nat) (G:T (T AV)) (w w2:List UInt8)
noncomputable def Wswr:AM:=⟨⟨143,38,(tW (tW (tY (.int .i64 n)) (.int .i64 j) tZ) sl (tW tZ (.int .i64 j2) (tX (tY (.int .i64 jj)) tZ))),   [.code (cd P 143 [1,0,0]),.inLoop (cd P 143 [1,0,0]),.inBlock 0],[],.run,CallKind.normal,none⟩,rest,⟨O,N,G⟩⟩
noncomputable def Fcom:AFrame:=⟨69,10,(tX tZ (tX (tX (tY (.str w2)) tZ) (tY (.str w)))),   [.ops (rg P 69 [1,0]).toList ((rg P 69 [1,0]).toList.drop 4),.code (cd P 69 [1,1])],[],.run,CallKind.normal,none⟩
end
section
variable {R:AV→AHeap→Prop} {keep N:Nat} {f0:FuncId} {rest:List AFrame} {O:T AObj} {w w2:List UInt8} {v v2 sl:AV} {G:T (T AV)} {K:AM→Prop} {td:List AItem} {crq0 n j j2 jj:Int}
theorem t_com:(∃ (O1:T AObj) (O2:T AObj),((Nat.beq (2) (AV.agg [AV.str w,v]).cells.length&&(AV.agg [AV.str w,v]).cells.all AV.one)=true∧T.set (some (AObj.cells (zd T.leaf 0 (AV.agg [AV.str w,v]).cells) (AV.agg [AV.str w,v]).cells.length 79 0 0 1 0 false T.leaf)) (⟨O,N,G⟩:AHeap).objs N=O1)∧((Nat.beq (2) (AV.agg [AV.str w2,v2]).cells.length&&(AV.agg [AV.str w2,v2]).cells.all AV.one)=true∧T.set (some (AObj.cells (zd T.leaf 0 (AV.agg [AV.str w2,v2]).cells) (AV.agg [AV.str w2,v2]).cells.length 79 0 0 1 0 false T.leaf)) (⟨O1,N+1,G⟩:AHeap).objs (N+1)=O2)∧(lC O2 (N+2) G N 0 (.str w))∧(zb (⟨O2,N+2,G⟩) (N+1) (0) (0) (1)=(some [.str w2]))∧K (AM.mk (enF 59 [.str w,.str w2]) ((Fcom w w2)::rest) ⟨O2,N+2,G⟩))=OT f0 R keep K (.ex fun O1:T AObj=>(.ex fun O2:T AObj=>(.seq [.run 2,.hopn (.nilp) O1 (N),.hopn (.nilp) O2 (N+1),.run 5,.hop (.str w) O2,.run 1,.hop (.str w2) O2,.keep [6,8],.run 1] .fin))) ((AM.mk (enF 69 [.agg [.str w,v],.agg [.str w2,v2]]) rest ⟨O,N,G⟩)):=by kernel_rfl
theorem zmu:(K (AM.mk (RF 69 10 (tX tZ (tX (tY (.int .i64 crq0)) tZ)) [.code (cd P (69:FuncId) [1,1])]) rest ⟨O,N,G⟩))=OT f0 R keep K (.seq [.run 4,.keep [4]] .fin) ((AM.mk (RF 59 20 (tX tZ (tX (tY (.int .i64 crq0)) tZ)) td) ((Fcom w w2)::rest) ⟨O,N,G⟩)):=by kernel_rfl
theorem t_swr:(K (Wswr n j j2 sl 0 rest O N G))=OT f0 R keep K (.seq [.run 6,.keep [0,1,2,3,10]] .fin) ((AM.mk (enF 143 [sl,.int .i64 j,.int .i64 j2,.int .i64 n,.fn (Fn.func 69) [] []]) rest ⟨O,N,G⟩)):=by kernel_rfl
theorem zsF:(((decide (jj<n))=true→(∃ (i1:Nat) (i2:Nat) (i3:Nat) (l1:List UInt8) (s1:AV) (i4:Nat) (i5:Nat) (i6:Nat) (l2:List UInt8) (s2:AV) (i7:Nat) (i8:Nat) (i9:Nat) (O1:T AObj) (i10:Nat) (i11:Nat) (i12:Nat) (O2:T AObj),(zf P (75) (sl) (.int .i64 (IntKind.i64.wrap (j2+jj)))=(some (.ptr i1 i2 i3)))∧(zb (⟨O,N,G⟩) (i1) (i2) (i3) (2)=(some [.str l1,s1]))∧(zf P (75) (sl) (.int .i64 (IntKind.i64.wrap (j+jj)))=(some (.ptr i4 i5 i6)))∧(zb (⟨O,N,G⟩) (i4) (i5) (i6) (2)=(some [.str l2,s2]))∧(zf P (75) (sl) (.int .i64 (IntKind.i64.wrap (j+jj)))=(some (.ptr i7 i8 i9)))∧((AV.agg [AV.str l1,s1]).cells.length.beq (2)=true∧zc (⟨O,N,G⟩:AHeap) i7 i8 i9 (AV.agg [AV.str l1,s1]).cells=some (⟨O1,N,G⟩:AHeap))∧(qW P (⟨O1,N,G⟩) (BinOp.add) (3) (false) (.int .i64 j2) (.int .i64 jj)=(some (.int .i64 (IntKind.i64.wrap (j2+jj)))))∧(zf P (75) (sl) (.int .i64 (IntKind.i64.wrap (j2+jj)))=(some (.ptr i10 i11 i12)))∧((AV.agg [AV.str l2,s2]).cells.length.beq (2)=true∧zc (⟨O1,N,G⟩:AHeap) i10 i11 i12 (AV.agg [AV.str l2,s2]).cells=some (⟨O2,N,G⟩:AHeap))∧K (Wswr n j j2 sl (IntKind.i64.wrap (jj+(1:Int))) rest O2 N G)))∧((decide (jj<n))=false→(K (AM.mk (RF 143 38 .leaf []) rest ⟨O,N,G⟩))))=OT f0 R keep K (.seq [.run 7] (.fork 13 (.ex fun i1:Nat=>(.ex fun i2:Nat=>(.ex fun i3:Nat=>(.ex fun l1:List UInt8=>(.ex fun s1:AV=>(.ex fun i4:Nat=>(.ex fun i5:Nat=>(.ex fun i6:Nat=>(.ex fun l2:List UInt8=>(.ex fun s2:AV=>(.ex fun i7:Nat=>(.ex fun i8:Nat=>(.ex fun i9:Nat=>(.ex fun O1:T AObj=>(.ex fun i10:Nat=>(.ex fun i11:Nat=>(.ex fun i12:Nat=>(.ex fun O2:T AObj=>(.seq [.run 17,.hopn (.ptr i1 i2 i3) O (N),.hop (.agg [.str l1,s1]) O,.run 4,.hopn (.ptr i4 i5 i6) O (N),.hop (.agg [.str l2,s2]) O,.hopn (.ptr i7 i8 i9) O (N),.hopn (.nilp) O1 (N),.hopn (.ptr i10 i11 i12) O1 (N),.hopn (.nilp) O2 (N),.run 8,.keep [0,1,2,3,10]] .fin))))))))))))))))))) (.seq [.run 3,.keep []] .fin))) ((Wswr n j j2 sl jj rest O N G)):=by kernel_rfl
end
variable {O O':T AObj} {N:Nat} {G:T (T AV)}
abbrev TE:=zg × Option Nat
def tE (e:TE):List AV:=[.str e.1,pv e.2]
theorem tEn:Enc 2 tE:=⟨fun _=>rfl,fun a=>by obtain ⟨x,p⟩:=a; cases p <;> rfl,by decide⟩
theorem tSl:SlT 75 79 2 24:=SlT.mk' (by kernel_rfl) (by kernel_rfl) (by kernel_rfl) (by kernel_rfl) (by kernel_rfl) rfl rfl
theorem st2 {e:TE}{h:AHeap}{r:Option AHeap}{i v o:Nat}(g:zc h i v o (tE e)=r):(AV.agg [AV.str e.1,pv e.2]).cells.length.beq 2=true∧zc h i v o (AV.agg [AV.str e.1,pv e.2]).cells=r:=by
 obtain ⟨x,p⟩:=e
 cases p <;> exact ⟨rfl,g⟩
theorem GV.put2 {α:Type}{enc:α→List AV}{sz:Nat}{st el:TypeId}{by' lo hi j:Nat}(S:SlT st el sz by')(E:Enc sz enc){xs:List α}{s:AV}{a b:α}(h:GV O el sz enc lo hi xs s)(hj:xs[j]?=some a)(hs:∃ ri q o n t,s=.slg ri q o n t)(N:Nat)(G:T (T AV)) :
 ∃ ri z off O',zf P st s (.int .i64 ((j:Nat):Int))=some (.ptr ri z off)∧zc ⟨O,N,G⟩ ri z off (enc b)=some ⟨O',N,G⟩∧GV O' el sz enc lo hi (xs.set j b) s∧Frm O O' ri∧ri=sid s:=by
 rcases h with ⟨rfl,rfl⟩ | ⟨ri,z,off,rfl,g1,g2,rd⟩ | ⟨ri,q,st',c,l0,sg,ex,rfl,g1,g2,g3,g4,g5⟩
 ·cases hj
 ·obtain ⟨_,_,_,_,_,h⟩:=hs
  cases h
 ·obtain ⟨hjl,hja⟩:=List.getElem?_eq_some_iff.1 hj
  have hext:zD ex (st'*sz+xs.length*sz) q q=some (st'*sz+xs.length*sz):=by unfold zD; rw [if_pos rfl]
  have hb:j*sz+sz≤xs.length*sz:=by
   calc j*sz+sz=(j+1)*sz:=by rw [Nat.add_mul]; omega
    _≤xs.length*sz:=Nat.mul_le_mul_right _ hjl
  have hset:(xs.set j b).flatMap enc=(xs.flatMap enc).take (j*sz)++enc b++(xs.flatMap enc).drop (j*sz+(enc b).length):=by
   rw [E.len,E.take _ _ (by omega),show j*sz+sz=(j+1)*sz by rw [Nat.add_mul]; omega,E.drop]
   rw [List.set_eq_take_append_cons_drop,if_pos hjl,List.flatMap_append,List.flatMap_cons,List.append_assoc]
  refine ⟨ri,q,st'*sz+j*sz,O.set (some (.cells (zd c (st'*sz+j*sz) (enc b)) (st'*sz+xs.length*sz) el q q (q+1) 0 sg ex)) ri,?_,?_,.inr (.inr ⟨ri,q,st',_,q,sg,ex,by rw [List.length_set],g1,g2,Nat.le_refl _,by rw [T.get_set,if_pos rfl,List.length_set],?_⟩),fun j hj=>by rw [T.get_set,if_neg hj],rfl⟩
  ·unfold zf
   rw [S.und]
   simp only [S.size]
   unfold zcK
   simp only
   unfold ym
   rw [if_pos ⟨by omega,by omega⟩]
   rfl
  ·unfold zc
   show (match O.get ri with | some (.cells c n el lo hi nv fz sg ex)=>_ | _=>_)=_
   rw [g4]
   simp only [hext]
   rw [if_pos ⟨g3,Nat.le_refl _,by rw [E.len]; omega,Nat.zero_le _,E.one b⟩,T.seq_eq]
   rfl
  ·rw [hset]
   exact g5.set (by rw [E.len,E.flat]; exact hb)
def Fx (xs:List TE) (i:Nat):TE:=xs.getD i ([],none)
theorem zaZ {xs:List TE}{i:Nat}(h:i<xs.length):xs[i]?=some (Fx xs i):=by
 unfold Fx
 rw [List.getD_eq_getElem?_getD,List.getElem?_eq_getElem h]; rfl
theorem zk2 {xs:List TE}{i k:Nat}{v:TE}(h:i<xs.length):Fx (xs.set i v) k=if k=i then v else Fx xs k:=by
 unfold Fx
 rw [List.getD_eq_getElem?_getD,List.getElem?_set]
 by_cases e:k=i
 ·subst e
  rw [if_pos rfl,if_pos rfl,if_pos h]
  rfl
 ·rw [if_neg (fun g=>e g.symm),if_neg e,List.getD_eq_getElem?_getD]
def swp (xs:List TE) (i j:Nat):List TE:=(xs.set j (Fx xs i)).set i (Fx xs j)
theorem zdA {xs:List TE}{i j:Nat}:(swp xs i j).length=xs.length:=by unfold swp; rw [List.length_set,List.length_set]
theorem zfe {xs:List TE}{i j k:Nat}(hi:i<xs.length)(hj:j<xs.length):Fx (swp xs i j) k=if k=i then Fx xs j else if k=j then Fx xs i else Fx xs k:=by
 unfold swp
 rw [zk2 (by rw [List.length_set]; exact hi),zk2 hj]
structure Arr (O:T AObj) (lo hi:Nat) (s:AV) (xs:List TE):Prop where
 gv:GV O 79 2 tE lo hi xs s
 sg:∃ ri q o n t,s=.slg ri q o n t
theorem Arr.ne {lo hi:Nat}{s:AV}{xs:List TE}(h:Arr O lo hi s xs):s≠.nils 0 0:=by
 obtain ⟨_,_,_,_,_,e⟩:=h.sg
 rw [e]
 intro h
 cases h
theorem Arr.sid {lo hi:Nat}{s:AV}{xs:List TE}(h:Arr O lo hi s xs):lo≤sid s∧sid s<hi:=h.gv.sid_lt h.ne
def Chg (s:AV) (O:T AObj) (N:Nat) (O':T AObj) (N':Nat):Prop:=N≤N'∧∀ j,j<N→j≠sid s→O'.get j=O.get j
theorem Chg.refl {s:AV}:Chg s O N O N:=⟨Nat.le_refl _,fun _ _ _=>rfl⟩
theorem Chg.trans {s:AV}{O1 O2:T AObj}{N1 N2:Nat}(h:Chg s O N O1 N1)(g:Chg s O1 N1 O2 N2):Chg s O N O2 N2:=⟨Nat.le_trans h.1 g.1,fun j h1 h2=>(g.2 j (Nat.lt_of_lt_of_le h1 h.1) h2).trans (h.2 j h1 h2)⟩
theorem Chg.ext {s:AV}{O1:T AObj}{N1:Nat}(h:Ext O N O1 N1):Chg s O N O1 N1:=⟨h.1,fun j h1 _=>h.2 j h1⟩
theorem Arr.ext {lo hi:Nat}{s:AV}{xs:List TE}{O1:T AObj}{N1:Nat}(h:Arr O lo hi s xs)(e:Ext O N O1 N1)(hN:hi≤N):Arr O1 lo hi s xs:=⟨h.gv.keep (fun j _ hj=>e.2 j (by omega)) (Nat.le_refl _) (Nat.le_refl _),h.sg⟩
theorem Arr.elem {lo hi i:Nat}{s:AV}{xs:List TE}(h:Arr O lo hi s xs)(hi':i<xs.length):∃ a1 a2 a3,zf P 75 s (.int .i64 ((i:Nat):Int))=some (.ptr a1 a2 a3)∧∀ (N:Nat) (G:T (T AV)),zb ⟨O,N,G⟩ a1 a2 a3 2=some (tE (Fx xs i)):=by
 obtain ⟨a1,a2,a3,_,_,e,rd,_⟩:=(h.gv.sv tEn).at tSl tEn (zaZ hi')
 exact ⟨a1,a2,a3,e,fun N G=>rd.load rfl N G⟩
theorem Arr.swap {lo hi i j:Nat}{s:AV}{xs:List TE}(h:Arr O lo hi s xs)(hi':i<xs.length)(hj:j<xs.length)(N:Nat)(G:T (T AV)):∃ a1 a2 a3 b1 b2 b3 O1 O2,
 zf P 75 s (.int .i64 ((i:Nat):Int))=some (.ptr a1 a2 a3)∧zb ⟨O,N,G⟩ a1 a2 a3 2=some (tE (Fx xs i))∧zf P 75 s (.int .i64 ((j:Nat):Int))=some (.ptr b1 b2 b3)∧zb ⟨O,N,G⟩ b1 b2 b3 2=some (tE (Fx xs j)) ∧
 zc ⟨O,N,G⟩ b1 b2 b3 (tE (Fx xs i))=some ⟨O1,N,G⟩∧zc ⟨O1,N,G⟩ a1 a2 a3 (tE (Fx xs j))=some ⟨O2,N,G⟩∧Arr O2 lo hi s (swp xs i j)∧Chg s O N O2 N:=by
 obtain ⟨a1,a2,a3,e1,l1⟩:=h.elem hi'
 obtain ⟨b1,b2,b3,e2,l2⟩:=h.elem hj
 obtain ⟨p1,p2,p3,O1,e3,s3,g3,f3,d3⟩:=h.gv.put2 tSl tEn (b:=Fx xs i) (zaZ hj) h.sg N G
 obtain ⟨rfl,rfl,rfl⟩:b1=p1∧b2=p2∧b3=p3:=by
  rw [e2] at e3
  injection e3 with e3
  injection e3 with h1 h2 h3
  exact ⟨h1,h2,h3⟩
 obtain ⟨q1,q2,q3,O2,e4,s4,g4,f4,d4⟩:=g3.put2 tSl tEn (j:=i) (b:=Fx xs j) (zaZ (by rw [List.length_set]; exact hi')) h.sg N G
 obtain ⟨rfl,rfl,rfl⟩:a1=q1∧a2=q2∧a3=q3:=by
  rw [e1] at e4
  injection e4 with e4
  injection e4 with h1 h2 h3
  exact ⟨h1,h2,h3⟩
 exact ⟨a1,a2,a3,b1,b2,b3,O1,O2,e1,l1 N G,e2,l2 N G,s3,s4,⟨g4,h.sg⟩,Nat.le_refl _,fun k _ hk=>(f4 k (by rw [d4]; exact hk)).trans (f3 k (by rw [d3]; exact hk))⟩
theorem zg2 {e e2:TE}{keep:Nat}{f0:FuncId}{Q:AV→AHeap→Prop}{rest:List AFrame}(hK:∀ O' N' z td,(z<0 ↔ Op.bytesLess e.1 e2.1=true)→Ext O N O' N'→Goal P keep f0 Q (AM.mk (RF 69 10 (tX tZ (tX (tY (.int .i64 z)) tZ)) td) rest ⟨O',N',G⟩)):Goal P keep f0 Q (AM.mk (enF 69 [.agg [.str e.1,pv e.2],.agg [.str e2.1,pv e2.2]]) rest ⟨O,N,G⟩):=by
 obtain ⟨O1,e1,b1,f1⟩:=Obj.box (t:=79) [.str e.1,pv e.2] (by cases e.2 <;> rfl) O N 2 rfl
 obtain ⟨O2,e2',b2,f2⟩:=Obj.box (t:=79) [.str e2.1,pv e2.2] (by cases e2.2 <;> rfl) O1 (N+1) 2 rfl
 refine ot t_com ⟨O1,O2,e1,e2',(b1.same (f2 N (by omega))).ld 0 rfl,b2.ld 0 rfl,?_⟩
 refine zqN fun z td hz=>?_
 exact ot zmu (hK O2 (N+2) z _ hz ⟨by omega,fun j hj=>(f2 j (by omega)).trans (f1 j (by omega))⟩)
def swr (xs:List TE) (a b n:Nat) (k:Nat):TE:=if a≤k∧k<a+n then Fx xs (k - a+b) else if b≤k∧k<b+n then Fx xs (k - b+a) else Fx xs k
theorem zjx {lo hi a b n:Nat}{s:AV}{xs:List TE}(h:Arr O lo hi s xs)(hab:a+n≤b)(hb:b+n≤xs.length)(hx:xs.length<1000000){keep:Nat}{f0:FuncId}{Q:AV→AHeap→Prop}{rest:List AFrame}
 (hK:∀ O' ys,Arr O' lo hi s ys→Chg s O N O' N→ys.length=xs.length→(∀ k,Fx ys k=swr xs a b n k)→Goal P keep f0 Q (AM.mk (RF 143 38 .leaf []) rest ⟨O',N,G⟩)):Goal P keep f0 Q (AM.mk (enF 143 [s,.int .i64 ((a:Nat):Int),.int .i64 ((b:Nat):Int),.int .i64 ((n:Nat):Int),.fn (Fn.func 69) [] []]) rest ⟨O,N,G⟩):=by
 have loop:∀ (c i:Nat) (O2:T AObj) (ys:List TE),i+c=n→Arr O2 lo hi s ys→Chg s O N O2 N→ys.length=xs.length→(∀ k,Fx ys k=swr xs a b i k)→Goal P keep f0 Q (Wswr ((n:Nat):Int) ((a:Nat):Int) ((b:Nat):Int) s ((i:Nat):Int) rest O2 N G):=by
  intro c
  induction c with
  | zero =>
   intro i O2 ys hi' h2 c2 l2 f2
   obtain rfl:i=n:=by omega
   exact ot zsF (fkf (decide_eq_false (by omega)) (hK O2 ys h2 c2 l2 f2))
  | succ c ih =>
   intro i O2 ys hi' h2 c2 l2 f2
   obtain ⟨a1,a2,a3,b1,b2,b3,O3,O4,eA,lA,eB,lB,sB,sA,h4,c4⟩:=h2.swap (i:=b+i) (j:=a+i) (by omega) (by omega) N G
   have wA:IntKind.i64.wrap (((b:Nat):Int)+((i:Nat):Int))=((b+i:Nat):Int):=by rw [IntKind.wrap_i64]; omega
   have wB:IntKind.i64.wrap (((a:Nat):Int)+((i:Nat):Int))=((a+i:Nat):Int):=by rw [IntKind.wrap_i64]; omega
   rw [← wA] at eA
   rw [← wB] at eB
   refine ot zsF (fkt (decide_eq_true (by omega)) ?_)
   refine ⟨a1,a2,a3,_,_,b1,b2,b3,_,_,b1,b2,b3,O3,a1,a2,a3,O4,eA,lA,eB,lB,eB,(st2 sB),rfl,eA,(st2 sA),?_⟩
   have nx:=ih (i+1) O4 (swp ys (b+i) (a+i)) (by omega) h4 (c2.trans c4) (by rw [zdA,l2]) (fun k=>?_)
   ·rw [← zq (i:=i) (by omega)] at nx
    exact nx
   ·rw [zfe (by omega) (by omega),f2,f2,f2]
    unfold swr
    by_cases g1:k=b+i
    ·subst g1
     rw [if_pos rfl,if_neg (by omega),if_neg (by omega),if_neg (by omega),if_pos (by omega)]
     congr 1
     omega
    ·rw [if_neg g1]
     by_cases g2:k=a+i
     ·subst g2
      rw [if_pos rfl,if_neg (by omega),if_neg (by omega),if_pos (by omega)]
      congr 1
      omega
     ·rw [if_neg g2]
      by_cases g3:a≤k∧k<a+i
      ·rw [if_pos g3,if_pos (by omega)]
      ·rw [if_neg g3,if_neg (show ¬ (a≤k∧k<a+(i+1)) by omega)]
       by_cases g4:b≤k∧k<b+i
       ·rw [if_pos g4,if_pos (show b≤k∧k<b+(i+1) by omega)]
       ·rw [if_neg g4,if_neg (show ¬ (b≤k∧k<b+(i+1)) by omega)]
 exact ot t_swr (loop n 0 O xs (Nat.zero_add _) h Chg.refl rfl (fun k=>by unfold swr; rw [if_neg (by omega),if_neg (by omega)]))
end Go.Proofs.Ytcdigdplhlgcaaa.gx
end
section
set_option maxRecDepth 100000
set_option linter.unusedVariables false
set_option linter.unusedSectionVars false
set_option linter.unusedSimpArgs false
namespace Go.Proofs.Ytcdigdplhlgcaaa.gx
open Go Ev tp
section
variable (j2 n j:Int) (sl:AV) (i1 i2 i3 i4 i5 i6:Nat) (s1 s2:AV) (l1 l2:List UInt8) (a b:Int) (rest:List AFrame) (O:T AObj) (N:Nat) (G:T (T AV))
noncomputable def zsx:AM:=⟨⟨141,58,(tW (tX (tX tZ (tY (.int .i64 b))) tZ) sl (tW (tY (.fn (Fn.func (69:FuncId)) [] [])) (.int .i64 j2) (tX (tY (.int .i64 a)) tZ))),   [.code (cd P 141 [1,1,0,0,0]),.inLoop (cd P 141 [1,1,0,0,0]),.inBlock 0,.code (cd P 141 [1,1,1])],[],.run,CallKind.normal,none⟩,rest,⟨O,N,G⟩⟩
noncomputable def zqq:AM:=⟨⟨125,53,(tW (tW (tY (.fn (Fn.func (69:FuncId)) [] [])) (.int .i64 j) tZ) sl (tW (tX (tY (.int .i64 a)) tZ) (.int .i64 n) tZ)),   [.code (cd P 125 [1,0,0]),.inLoop (cd P 125 [1,0,0]),.inBlock 0],[],.run,CallKind.normal,none⟩,rest,⟨O,N,G⟩⟩
noncomputable def Winv:AM:=⟨⟨125,53,(tW (tW (tY (.fn (Fn.func (69:FuncId)) [] [])) (.int .i64 j) (tX (tY (.int .i64 b)) tZ)) sl (tW (tX (tY (.int .i64 a)) tZ) (.int .i64 n) tZ)),   [.code (cd P 125 [1,0,0,1,0,0,1,0,0]),.inLoop (cd P 125 [1,0,0,1,0,0,1,0,0]),.inBlock 2,.inBlock 1,.code (cd P 125 [1,0,0,1,1]),.inLoop (cd P (125:FuncId) [1,0,0]),.inBlock 0],[],.run,CallKind.normal,none⟩,rest,⟨O,N,G⟩⟩
noncomputable def zqx:AFrame:=⟨125,53,(tW (tW (tW (tX (tX (tY (.agg [.str l2,s2])) tZ) (tY sl)) (.fn (Fn.func (69:FuncId)) [] []) (tX (tY (.int .i64 j)) (tY sl))) (.int .i64 j) (tX (tW tZ (.int .i64 b) (tY (.ptr i1 i2 i3))) (tX (tY (.bool true)) (tY (.int .i64 (IntKind.i64.wrap (b - (1:Int)))))))) sl (tW (tX (tW tZ (.int .i64 a) (tY (.int .i64 b))) (tX (tY (.bool (decide (b > j)))) (tY (.int .i64 b)))) (.int .i64 n) (tX (tX (tY (.int .i64 b)) (tY (.agg [.str l1,s1]))) (tX (tY (.fn (Fn.func (69:FuncId)) [] [])) (tY (.ptr i4 i5 i6)))))),   [.drw (rg P 125 [1,0,0,1,0,0,1,0,0,0,0]) [14,15,16] [13,12,11,10,9,8,7,6,5,4,3,2,1,0],.code (cd P 125 [1,0,0,1,0,0,1,0,0,0,1]),.code (cd P 125 [1,0,0,1,0,0,1,0,0,1]),.inLoop (cd P (125:FuncId) [1,0,0,1,0,0,1,0,0]),.inBlock 2,.inBlock 1,.code (cd P (125:FuncId) [1,0,0,1,1]),.inLoop (cd P (125:FuncId) [1,0,0]),.inBlock 0],[],.run,CallKind.normal,none⟩
noncomputable def znv:AFrame:=⟨141,58,(tW (tX (tX tZ (tW tZ (.int .i64 b) (tY (.int .i64 (IntKind.i64.wrap (j2 - a)))))) (tX tZ (tX tZ (tY (.int .i64 b))))) sl (tW (tW (tX tZ (tY sl)) (.fn (Fn.func (69:FuncId)) [] []) (tX tZ (tY (.int .i64 j2)))) (.int .i64 j2) (tX (tY (.int .i64 a)) (tX tZ (tY (.fn (Fn.func (69:FuncId)) [] [])))))),   [.ops (rg P 141 [1,1,0,0,0,1,0,1,0,0]).toList ((rg P 141 [1,1,0,0,0,1,0,1,0,0]).toList.drop 7),.code (cd P 141 [1,1,0,0,0,1,0,1,0,1]),.inBlock 1,.inLoop (cd P (141:FuncId) [1,1,0,0,0]),.inBlock 0,.code (cd P (141:FuncId) [1,1,1])],[],.run,CallKind.normal,none⟩
noncomputable def zoi:AFrame:=⟨141,58,(tW (tX (tX tZ (tW (tX (tY sl) tZ) (.int .i64 b) (tX (tY (.int .i64 (IntKind.i64.wrap (IntKind.i64.wrap (j2+b) - a)))) tZ))) (tX tZ (tX tZ (tX (tY (.fn (Fn.func (69:FuncId)) [] [])) tZ)))) sl (tW (tW tZ (.fn (Fn.func (69:FuncId)) [] []) (tX tZ (tX (tY (.int .i64 a)) tZ))) (.int .i64 j2) (tX (tY (.int .i64 a)) (tX (tX (tY (.int .i64 (IntKind.i64.wrap (j2 - a)))) tZ) tZ)))),   [.ops (rg P 141 [1,1,0,0,0,1,0,1,1,0]).toList ((rg P 141 [1,1,0,0,0,1,0,1,1,0]).toList.drop 11),.code (cd P 141 [1,1,0,0,0,1,0,1,1,1]),.inBlock 1,.inLoop (cd P (141:FuncId) [1,1,0,0,0]),.inBlock 0,.code (cd P (141:FuncId) [1,1,1])],[],.run,CallKind.normal,none⟩
noncomputable def zqt:AFrame:=⟨141,58,(tX (tX (tX (tX tZ (tX tZ (tY (.int .i64 a)))) tZ) (tX tZ (tX (tX tZ (tY (.int .i64 (IntKind.i64.wrap (j2 - a))))) tZ))) (tX (tX (tX tZ (tX tZ (tY (.fn (Fn.func (69:FuncId)) [] [])))) tZ) (tX (tX (tX tZ (tY sl)) tZ) (tX (tX tZ (tY (.int .i64 j2))) tZ)))),   [.ops (rg P 141 [1,1,1]).toList ((rg P 141 [1,1,1]).toList.drop 7)],[],.run,CallKind.normal,none⟩
end
section
variable {R:AV→AHeap→Prop} {keep N i1c i2c i3c i4c i5c i6c:Nat} {f0:FuncId} {rest:List AFrame} {O:T AObj} {n j j2 a b crq0:Int} {sl s1c s2c:AV} {G:T (T AV)} {K:AM→Prop} {td:List AItem} {l1c l2c:List UInt8}
theorem t_rot:(K (zsx j2 sl (IntKind.i64.wrap (j2 - j)) (IntKind.i64.wrap (n - j2)) rest O N G))=OT f0 R keep K (.seq [.run 17,.keep [0,2,4,10,11]] .fin) ((AM.mk (enF 141 [sl,.int .i64 j,.int .i64 j2,.int .i64 n,.fn (Fn.func 69) [] []]) rest ⟨O,N,G⟩)):=by kernel_rfl
theorem t_rol:((((a != b))=true→(((decide (a > b))=true→(K (AM.mk (enF 143 [sl,.int .i64 (IntKind.i64.wrap (j2 - a)),.int .i64 j2,.int .i64 b,.fn (Fn.func (69:FuncId)) [] []]) ((znv j2 sl a b)::rest) ⟨O,N,G⟩)))∧((decide (a > b))=false→(K (AM.mk (enF 143 [sl,.int .i64 (IntKind.i64.wrap (j2 - a)),.int .i64 (IntKind.i64.wrap (IntKind.i64.wrap (j2+b) - a)),.int .i64 a,.fn (Fn.func (69:FuncId)) [] []]) ((zoi j2 sl a b)::rest) ⟨O,N,G⟩)))))∧(((a != b))=false→(K (AM.mk (enF 143 [sl,.int .i64 (IntKind.i64.wrap (j2 - a)),.int .i64 j2,.int .i64 a,.fn (Fn.func (69:FuncId)) [] []]) ((zqt j2 sl a)::rest) ⟨O,N,G⟩))))=OT f0 R keep K (.seq [.run 7] (.fork 20 (.seq [.run 9] (.fork 23 (.seq [.run 10,.keep [0,2,4,10,11,24,27,28,29,30],.run 1] .fin) (.seq [.run 14,.keep [0,2,4,10,11,35,38,43,44,45],.run 1] .fin))) (.seq [.run 10,.keep [50,53,54,55,56],.run 1] .fin))) ((zsx j2 sl a b rest O N G)):=by kernel_rfl
theorem ziy:(K (zsx j2 sl (IntKind.i64.wrap (a - b)) b rest O N G))=OT f0 R keep K (.seq [.run 10,.keep [0,2,4,10,11]] .fin) ((AM.mk (RF 143 38 .leaf td) ((znv j2 sl a b)::rest) ⟨O,N,G⟩)):=by kernel_rfl
theorem ziX:(K (zsx j2 sl a (IntKind.i64.wrap (b - a)) rest O N G))=OT f0 R keep K (.seq [.run 10,.keep [0,2,4,10,11]] .fin) ((AM.mk (RF 143 38 .leaf td) ((zoi j2 sl a b)::rest) ⟨O,N,G⟩)):=by kernel_rfl
theorem zkJ:(K (AM.mk (RF 141 58 .leaf []) rest ⟨O,N,G⟩))=OT f0 R keep K (.seq [.run 3,.keep []] .fin) ((AM.mk (RF 143 38 .leaf td) ((zqt j2 sl a)::rest) ⟨O,N,G⟩)):=by kernel_rfl
theorem t_int:(K (zqq n j sl (IntKind.i64.wrap (j+(1:Int))) rest O N G))=OT f0 R keep K (.seq [.run 8,.keep [0,1,2,3,8]] .fin) ((AM.mk (enF 125 [sl,.int .i64 j,.int .i64 n,.fn (Fn.func 69) [] []]) rest ⟨O,N,G⟩)):=by kernel_rfl
theorem zpn:(((decide (a<n))=true→(K (Winv n j sl a a rest O N G)))∧((decide (a<n))=false→(K (AM.mk (RF 125 53 .leaf []) rest ⟨O,N,G⟩))))=OT f0 R keep K (.seq [.run 7] (.fork 14 (.seq [.run 11,.keep [0,1,2,3,8,9]] .fin) (.seq [.run 3,.keep []] .fin))) ((zqq n j sl a rest O N G)):=by kernel_rfl
theorem zrz:(((decide (b > j))=true→(∃ (i1:Nat) (i2:Nat) (i3:Nat) (l1:List UInt8) (s1:AV) (i4:Nat) (i5:Nat) (i6:Nat) (l2:List UInt8) (s2:AV),(iX 75 sl b i1 i2 i3)∧(zb (⟨O,N,G⟩) (i1) (i2) (i3) (2)=(some [.str l1,s1]))∧(zf P (75) (sl) (.int .i64 (IntKind.i64.wrap (b - (1:Int))))=(some (.ptr i4 i5 i6)))∧(zb (⟨O,N,G⟩) (i4) (i5) (i6) (2)=(some [.str l2,s2]))∧K (AM.mk (enF 69 [.agg [.str l1,s1],.agg [.str l2,s2]]) ((zqx n j sl i1 i2 i3 i4 i5 i6 s1 s2 l1 l2 a b)::rest) ⟨O,N,G⟩)))∧((decide (b > j))=false→(K (zqq n j sl (IntKind.i64.wrap (a+(1:Int))) rest O N G))))=OT f0 R keep K (.seq [.run 7] (.fork 21 (.ex fun i1:Nat=>(.ex fun i2:Nat=>(.ex fun i3:Nat=>(.ex fun l1:List UInt8=>(.ex fun s1:AV=>(.ex fun i4:Nat=>(.ex fun i5:Nat=>(.ex fun i6:Nat=>(.ex fun l2:List UInt8=>(.ex fun s2:AV=>(.seq [.run 3,.hopn (.ptr i1 i2 i3) O (N),.hop (.agg [.str l1,s1]) O,.run 3,.hopn (.ptr i4 i5 i6) O (N),.hop (.agg [.str l2,s2]) O,.run 1] .fin))))))))))) (.seq [.run 23,.keep [0,1,2,3,8]] .fin))) ((Winv n j sl a b rest O N G)):=by kernel_rfl
theorem zjv:(((decide (crq0<(0:Int)))=true→(∃ (i1:Nat) (i2:Nat) (i3:Nat) (l1:List UInt8) (s1:AV) (i4:Nat) (i5:Nat) (i6:Nat) (l2:List UInt8) (s2:AV) (i7:Nat) (i8:Nat) (i9:Nat) (O1:T AObj) (i10:Nat) (i11:Nat) (i12:Nat) (O2:T AObj),(zf P (75) (sl) (.int .i64 (IntKind.i64.wrap (b - (1:Int))))=(some (.ptr i1 i2 i3)))∧(zb (⟨O,N,G⟩) (i1) (i2) (i3) (2)=(some [.str l1,s1]))∧(iX 75 sl b i4 i5 i6)∧(zb (⟨O,N,G⟩) (i4) (i5) (i6) (2)=(some [.str l2,s2]))∧(iX 75 sl b i7 i8 i9)∧((AV.agg [AV.str l1,s1]).cells.length.beq (2)=true∧zc (⟨O,N,G⟩:AHeap) i7 i8 i9 (AV.agg [AV.str l1,s1]).cells=some (⟨O1,N,G⟩:AHeap))∧(qW P (⟨O1,N,G⟩) (BinOp.sub) (3) (true) (.int .i64 b) (.int .i64 1)=(some (.int .i64 (IntKind.i64.wrap (b - (1:Int))))))∧(zf P (75) (sl) (.int .i64 (IntKind.i64.wrap (b - (1:Int))))=(some (.ptr i10 i11 i12)))∧((AV.agg [AV.str l2,s2]).cells.length.beq (2)=true∧zc (⟨O1,N,G⟩:AHeap) i10 i11 i12 (AV.agg [AV.str l2,s2]).cells=some (⟨O2,N,G⟩:AHeap))∧K (Winv n j sl a (IntKind.i64.wrap (b - (1:Int))) rest O2 N G)))∧((decide (crq0<(0:Int)))=false→(K (zqq n j sl (IntKind.i64.wrap (a+(1:Int))) rest O N G))))=OT f0 R keep K (.seq [.run 4] (.fork 34 (.ex fun i1:Nat=>(.ex fun i2:Nat=>(.ex fun i3:Nat=>(.ex fun l1:List UInt8=>(.ex fun s1:AV=>(.ex fun i4:Nat=>(.ex fun i5:Nat=>(.ex fun i6:Nat=>(.ex fun l2:List UInt8=>(.ex fun s2:AV=>(.ex fun i7:Nat=>(.ex fun i8:Nat=>(.ex fun i9:Nat=>(.ex fun O1:T AObj=>(.ex fun i10:Nat=>(.ex fun i11:Nat=>(.ex fun i12:Nat=>(.ex fun O2:T AObj=>(.seq [.run 13,.hopn (.ptr i1 i2 i3) O (N),.hop (.agg [.str l1,s1]) O,.run 2,.hopn (.ptr i4 i5 i6) O (N),.hop (.agg [.str l2,s2]) O,.hopn (.ptr i7 i8 i9) O (N),.hopn (.nilp) O1 (N),.hopn (.ptr i10 i11 i12) O1 (N),.hopn (.nilp) O2 (N),.run 8,.keep [0,1,2,3,8,9]] .fin))))))))))))))))))) (.seq [.run 9,.keep [0,1,2,3,8]] .fin))) ((AM.mk (RF 69 10 (tX tZ (tX (tY (.int .i64 crq0)) tZ)) td) ((zqx n j sl i1c i2c i3c i4c i5c i6c s1c s2c l1c l2c a b)::rest) ⟨O,N,G⟩)):=by kernel_rfl
end
variable {O O':T AObj} {N:Nat} {G:T (T AV)}
theorem le_trans {x y z:zg}(h:Op.bytesLess y x=false)(g:Op.bytesLess z y=false):Op.bytesLess z x=false:=by
 cases e:Op.bytesLess z x with
 | false=>rfl
 | true=>rw [zl5 e h] at g; cases g
def Sor (xs:List TE) (a b:Nat):Prop:=∀ u v,a≤u→u<v→v<b→Op.bytesLess (Fx xs v).1 (Fx xs u).1=false
def Rg (xs ys:List TE) (a b:Nat):Prop:=ys.length=xs.length∧(∀ k,k<a∨b≤k→Fx ys k=Fx xs k)∧∀ v,(∃ k,a≤k∧k<b∧Fx ys k=v) ↔ ∃ k,a≤k∧k<b∧Fx xs k=v
theorem Rg.refl {xs:List TE}{a b:Nat}:Rg xs xs a b:=⟨rfl,fun _ _=>rfl,fun _=>Iff.rfl⟩
theorem Rg.trans {xs ys zs:List TE}{a b:Nat}(h:Rg xs ys a b)(g:Rg ys zs a b):Rg xs zs a b:=⟨g.1.trans h.1,fun k hk=>(g.2.1 k hk).trans (h.2.1 k hk),fun v=>(g.2.2 v).trans (h.2.2 v)⟩
theorem Rg.mono {xs ys:List TE}{a b a' b':Nat}(h:Rg xs ys a b)(ha:a'≤a)(hb:b≤b'):Rg xs ys a' b':=by
 refine ⟨h.1,fun k hk=>h.2.1 k (by omega),fun v=>⟨fun ⟨k,h1,h2,h3⟩=>?_,fun ⟨k,h1,h2,h3⟩=>?_⟩⟩
 ·by_cases hk:a≤k∧k<b
  ·obtain ⟨k',g1,g2,g3⟩:=(h.2.2 v).1 ⟨k,hk.1,hk.2,h3⟩
   exact ⟨k',by omega,by omega,g3⟩
  ·exact ⟨k,h1,h2,by rw [← h.2.1 k (by omega)]; exact h3⟩
 ·by_cases hk:a≤k∧k<b
  ·obtain ⟨k',g1,g2,g3⟩:=(h.2.2 v).2 ⟨k,hk.1,hk.2,h3⟩
   exact ⟨k',by omega,by omega,g3⟩
  ·exact ⟨k,h1,h2,by rw [h.2.1 k (by omega)]; exact h3⟩
theorem Rg.of {xs ys:List TE}{a b:Nat}(hl:ys.length=xs.length)(ho:∀ k,k<a∨b≤k→Fx ys k=Fx xs k)(h1:∀ k,a≤k→k<b→∃ k',a≤k'∧k'<b∧Fx ys k=Fx xs k')(h2:∀ k,a≤k→k<b→∃ k',a≤k'∧k'<b∧Fx xs k=Fx ys k'):Rg xs ys a b :=
 ⟨hl,ho,fun v=>⟨fun ⟨k,g1,g2,g3⟩=>by
  obtain ⟨k',e1,e2,e3⟩:=h1 k g1 g2
  exact ⟨k',e1,e2,by rw [← e3,g3]⟩,fun ⟨k,g1,g2,g3⟩=>by
  obtain ⟨k',e1,e2,e3⟩:=h2 k g1 g2
  exact ⟨k',e1,e2,by rw [← e3,g3]⟩⟩⟩
theorem Rg.swp {xs:List TE}{a b i j:Nat}(hi:a≤i∧i<b)(hj:a≤j∧j<b)(hb:b≤xs.length):Rg xs (swp xs i j) a b:=by
 have hf:=fun k=>zfe (xs:=xs) (i:=i) (j:=j) (k:=k) (by omega) (by omega)
 refine Rg.of zdA (fun k hk=>by rw [hf,if_neg (by omega),if_neg (by omega)]) (fun k h1 h2=>?_) (fun k h1 h2=>?_)
 ·rw [hf]
  split
  ·exact ⟨j,hj.1,hj.2,rfl⟩
  ·split
   ·exact ⟨i,hi.1,hi.2,rfl⟩
   ·exact ⟨k,h1,h2,rfl⟩
 ·by_cases e1:k=i
  ·refine ⟨j,hj.1,hj.2,?_⟩
   rw [hf]
   split
   ·rename_i e2; rw [e1,e2]
   ·rw [if_pos rfl,e1]
  ·by_cases e2:k=j
   ·exact ⟨i,hi.1,hi.2,by rw [hf,if_pos rfl,e2]⟩
   ·exact ⟨k,h1,h2,by rw [hf,if_neg e1,if_neg e2]⟩
def zam (g:Nat→TE) (a m b k:Nat):TE:=if a≤k∧k<a+(b - m) then g (k - a+m) else if a+(b - m)≤k∧k<b then g (k - (b - m)) else g k
theorem zsA {ys zs:List TE}{m i j:Nat}(hi:j<i)(hm:i≤m)(hf:∀ k,Fx zs k=swr ys (m - i) m j k)(k:Nat):zam (Fx zs) (m - (i - j)) m (m+j) k=zam (Fx ys) (m - i) m (m+j) k:=by
 unfold zam
 rw [hf,hf,hf]
 unfold swr
 repeat' split
 all_goals first | (exfalso; omega) | rfl | (congr 1; omega)
theorem zqV {ys zs:List TE}{m i j:Nat}(hi:i<j)(hm:i≤m)(hf:∀ k,Fx zs k=swr ys (m - i) (m+j - i) i k)(k:Nat):zam (Fx zs) (m - i) m (m+(j - i)) k=zam (Fx ys) (m - i) m (m+j) k:=by
 unfold zam
 rw [hf,hf,hf]
 unfold swr
 repeat' split
 all_goals first | (exfalso; omega) | rfl | (congr 1; omega)
theorem zrU {ys zs:List TE}{m i:Nat}(hm:i≤m)(hf:∀ k,Fx zs k=swr ys (m - i) m i k)(k:Nat):Fx zs k=zam (Fx ys) (m - i) m (m+i) k:=by
 unfold zam
 rw [hf]
 unfold swr
 repeat' split
 all_goals first | (exfalso; omega) | rfl | (congr 1; omega)
theorem zsE {lo hi a m b:Nat}{s:AV}{xs:List TE}(h:Arr O lo hi s xs)(ham:a<m)(hmb:m<b)(hb:b≤xs.length)(hx:xs.length<1000000){keep:Nat}{f0:FuncId}{Q:AV→AHeap→Prop}{rest:List AFrame}
 (hK:∀ O' ys,Arr O' lo hi s ys→Chg s O N O' N→ys.length=xs.length→(∀ k,Fx ys k=zam (Fx xs) a m b k)→Goal P keep f0 Q (AM.mk (RF 141 58 .leaf []) rest ⟨O',N,G⟩)):Goal P keep f0 Q (AM.mk (enF 141 [s,.int .i64 ((a:Nat):Int),.int .i64 ((m:Nat):Int),.int .i64 ((b:Nat):Int),.fn (Fn.func 69) [] []]) rest ⟨O,N,G⟩):=by
 have loop:∀ (c i j:Nat) (O2:T AObj) (ys:List TE),i+j≤c→0<i→0<j→i≤m→m+j≤xs.length→Arr O2 lo hi s ys→Chg s O N O2 N→ys.length=xs.length→(∀ k,zam (Fx ys) (m - i) m (m+j) k=zam (Fx xs) a m b k)→Goal P keep f0 Q (zsx ((m:Nat):Int) s ((i:Nat):Int) ((j:Nat):Int) rest O2 N G):=by
  intro c
  induction c with
  | zero=>intro i j O2 ys h1; omega
  | succ c ih =>
   intro i j O2 ys hc hi0 hj0 him hmj h2 c2 l2 f2
   have w1:IntKind.i64.wrap (((m:Nat):Int) - ((i:Nat):Int))=((m - i:Nat):Int):=by rw [IntKind.wrap_i64]; omega
   have w0:IntKind.i64.wrap (((m:Nat):Int)+((j:Nat):Int))=((m+j:Nat):Int):=by rw [IntKind.wrap_i64]; omega
   have w2:IntKind.i64.wrap (((m+j:Nat):Int) - ((i:Nat):Int))=((m+j - i:Nat):Int):=by rw [IntKind.wrap_i64]; omega
   refine ot t_rol ⟨fun hne=>⟨fun hgt=>?_,fun hgt=>?_⟩,fun heq=>?_⟩
   ·have g:j<i:=by have:=of_decide_eq_true hgt; omega
    rw [w1]
    refine zjx h2 (by omega) (by omega) (by omega) fun O3 zs h3 c3 l3 f3=>?_
    refine ot ziy ?_
    have w3:IntKind.i64.wrap (((i:Nat):Int) - ((j:Nat):Int))=((i - j:Nat):Int):=by rw [IntKind.wrap_i64]; omega
    rw [w3]
    exact ih (i - j) j O3 zs (by omega) (by omega) hj0 (by omega) hmj h3 (c2.trans c3) (l3.trans l2) (fun k=>(zsA g him f3 k).trans (f2 k))
   ·have g:i<j:=by
     have h1:¬ (((i:Nat):Int) > ((j:Nat):Int)):=of_decide_eq_false hgt
     have h2:((i:Nat):Int)≠((j:Nat):Int):=by simpa using hne
     omega
    rw [w1,w0,w2]
    refine zjx h2 (by omega) (by omega) (by omega) fun O3 zs h3 c3 l3 f3=>?_
    refine ot ziX ?_
    have w3:IntKind.i64.wrap (((j:Nat):Int) - ((i:Nat):Int))=((j - i:Nat):Int):=by rw [IntKind.wrap_i64]; omega
    rw [w3]
    exact ih i (j - i) O3 zs (by omega) hi0 (by omega) him (by omega) h3 (c2.trans c3) (l3.trans l2) (fun k=>(zqV g him f3 k).trans (f2 k))
   ·obtain rfl:i=j:=by
     have h2:((i:Nat):Int)=((j:Nat):Int):=by simpa using heq
     omega
    rw [w1]
    refine zjx h2 (by omega) (by omega) (by omega) fun O3 zs h3 c3 l3 f3=>?_
    exact ot zkJ (hK O3 zs h3 (c2.trans c3) (l3.trans l2) (fun k=>(zrU him f3 k).trans (f2 k)))
 have w1:IntKind.i64.wrap (((m:Nat):Int) - ((a:Nat):Int))=((m - a:Nat):Int):=by rw [IntKind.wrap_i64]; omega
 have w2:IntKind.i64.wrap (((b:Nat):Int) - ((m:Nat):Int))=((b - m:Nat):Int):=by rw [IntKind.wrap_i64]; omega
 refine ot t_rot ?_
 rw [w1,w2]
 exact loop _ (m - a) (b - m) O xs (Nat.le_refl _) (by omega) (by omega) (by omega) (by omega) h Chg.refl rfl (fun k=>by rw [show m - (m - a)=a by omega,show m+(b - m)=b by omega])
theorem zna {xs:List TE}{i j:Nat}(hi:i<xs.length)(hj:j<xs.length):swp xs i j=swp xs j i:=by
 unfold swp
 by_cases e:i=j
 ·rw [e]
 ·exact List.set_comm _ _ (fun h=>e h.symm)
def Sin (xs:List TE) (a i p:Nat):Prop:=∀ u v,a≤u→u<v→v≤i→v≠p→Op.bytesLess (Fx xs v).1 (Fx xs u).1=false
theorem Sin.stop {xs:List TE}{a i p:Nat}(h:Sin xs a i p)(hp:p=a∨a<p∧p≤i∧Op.bytesLess (Fx xs p).1 (Fx xs (p - 1)).1=false):Sor xs a (i+1):=by
 intro u v h1 h2 h3
 by_cases e:v=p
 ·subst e
  rcases hp with rfl | ⟨g1,g2,g3⟩
  ·omega
  ·by_cases e2:u=v - 1
   ·rw [e2]; exact g3
   ·exact le_trans (h u (v - 1) h1 (by omega) (by omega) (by omega)) g3
 ·exact h u v h1 h2 (by omega) e
theorem Sin.step {xs:List TE}{a i p:Nat}(h:Sin xs a i p)(ha:a<p)(hpi:p≤i)(hi:i<xs.length)(hl:Op.bytesLess (Fx xs p).1 (Fx xs (p - 1)).1=true):Sin (swp xs p (p - 1)) a i (p - 1):=by
 have hf:=fun k=>zfe (xs:=xs) (i:=p) (j:=p - 1) (k:=k) (by omega) (by omega)
 intro u v h1 h2 h3 h4
 rw [hf,hf]
 by_cases e1:v=p
 ·rw [if_pos e1]
  by_cases e2:u=p - 1
  ·rw [if_neg (by omega),if_pos e2]
   exact jw hl
  ·rw [if_neg (by omega),if_neg e2]
   exact h u (p - 1) h1 (by omega) (by omega) (by omega)
 ·rw [if_neg e1,if_neg h4]
  by_cases e3:u=p
  ·rw [if_pos e3]
   exact h (p - 1) v (by omega) (by omega) h3 e1
  ·rw [if_neg e3]
   by_cases e2:u=p - 1
   ·rw [if_pos e2]
    exact h p v (by omega) (by omega) h3 e1
   ·rw [if_neg e2]
    exact h u v h1 h2 h3 e1
theorem zlz {lo hi a b:Nat}{s:AV}{xs:List TE}(h:Arr O lo hi s xs)(hN:hi≤N)(hb:b≤xs.length)(hx:xs.length<1000000)(hab:a≤b){keep:Nat}{f0:FuncId}{Q:AV→AHeap→Prop}{rest:List AFrame}
 (hK:∀ O' N' ys,Arr O' lo hi s ys→Chg s O N O' N'→Rg xs ys a b→Sor ys a b→Goal P keep f0 Q (AM.mk (RF 125 53 .leaf []) rest ⟨O',N',G⟩)):Goal P keep f0 Q (AM.mk (enF 125 [s,.int .i64 ((a:Nat):Int),.int .i64 ((b:Nat):Int),.fn (Fn.func 69) [] []]) rest ⟨O,N,G⟩):=by
 have inner:∀ (i:Nat),a≤i→i<b→(∀ O2 N2 ys,Arr O2 lo hi s ys→Chg s O N O2 N2→Rg xs ys a b→Sor ys a (i+1)→Goal P keep f0 Q (zqq ((b:Nat):Int) ((a:Nat):Int) s ((i+1:Nat):Int) rest O2 N2 G))→∀ (c p:Nat) (O2:T AObj) (N2:Nat) (ys:List TE),p=a+c→p≤i→Arr O2 lo hi s ys→Chg s O N O2 N2→Rg xs ys a b→Sin ys a i p→Goal P keep f0 Q (Winv ((b:Nat):Int) ((a:Nat):Int) s ((i:Nat):Int) ((p:Nat):Int) rest O2 N2 G):=by
  intro i hai hib out c
  induction c with
  | zero =>
   intro p O2 N2 ys hp hpi h2 c2 r2 s2
   refine ot zrz (fkf (decide_eq_false (by omega)) ?_)
   have:=out O2 N2 ys h2 c2 r2 (s2.stop (.inl hp))
   rw [← zq (i:=i) (by omega)] at this
   exact this
  | succ c ih =>
   intro p O2 N2 ys hp hpi h2 c2 r2 s2
   have l2:=r2.1
   have nn:=c2.1
   have w1:IntKind.i64.wrap (((p:Nat):Int) - (1:Int))=((p - 1:Nat):Int):=by rw [IntKind.wrap_i64]; omega
   obtain ⟨a1,a2,a3,eA,lA⟩:=h2.elem (i:=p) (by omega)
   obtain ⟨b1,b2,b3,eB,lB⟩:=h2.elem (i:=p - 1) (by omega)
   rw [← w1] at eB
   refine ot zrz (fkt (decide_eq_true (by omega)) ⟨a1,a2,a3,_,_,b1,b2,b3,_,_,eA,lA _ _,eB,lB _ _,?_⟩)
   refine zg2 fun O3 N3 z td hz ex3=>?_
   have h3:=h2.ext ex3 (by omega)
   have c3:=c2.trans (Chg.ext ex3)
   refine ot zjv ⟨fun hc=>?_,fun hc=>?_⟩
   ·obtain ⟨d1,d2,d3,g1,g2,g3,O4,O5,eD,lD,eG,lG,sG,sD,h5,c5⟩:=h3.swap (i:=p - 1) (j:=p) (by omega) (by omega) N3 G
    rw [← w1] at eD
    refine ⟨d1,d2,d3,_,_,g1,g2,g3,_,_,g1,g2,g3,O4,d1,d2,d3,O5,eD,lD,eG,lG,eG,(st2 sG),rfl,eD,(st2 sD),?_⟩
    rw [w1]
    exact ih (p - 1) O5 N3 (swp ys (p - 1) p) (by omega) (by omega) h5 (c3.trans c5) (r2.trans (Rg.swp (by omega) (by omega) (by omega))) (by
     have e:=hz.1 (of_decide_eq_true hc)
     have:=s2.step (by omega) hpi (by omega) e
     rwa [zna (by omega) (by omega)] at this)
   ·refine (?_:Goal P keep f0 Q _)
    have:=out O3 N3 ys h3 c3 r2 (s2.stop (.inr ⟨by omega,hpi,by
     cases e:Op.bytesLess (Fx ys p).1 (Fx ys (p - 1)).1 with
     | false=>rfl
     | true=>have:=hz.2 e; have:=of_decide_eq_false hc; omega⟩))
    rw [← zq (i:=i) (by omega)] at this
    exact this
 have outer:∀ (c i:Nat) (O2:T AObj) (N2:Nat) (ys:List TE),i+c=b→a≤i→Arr O2 lo hi s ys→Chg s O N O2 N2→Rg xs ys a b→Sor ys a i→Goal P keep f0 Q (zqq ((b:Nat):Int) ((a:Nat):Int) s ((i:Nat):Int) rest O2 N2 G):=by
  intro c
  induction c with
  | zero =>
   intro i O2 N2 ys hc hai h2 c2 r2 s2
   obtain rfl:i=b:=by omega
   exact ot zpn (fkf (decide_eq_false (by omega)) (hK O2 N2 ys h2 c2 r2 s2))
  | succ c ih =>
   intro i O2 N2 ys hc hai h2 c2 r2 s2
   refine ot zpn (fkt (decide_eq_true (by omega)) ?_)
   exact inner i hai (by omega) (fun O3 N3 zs h3 c3 r3 s3=>ih (i+1) O3 N3 zs (by omega) (by omega) h3 c3 r3 s3) (i - a) i O2 N2 ys (by omega) (Nat.le_refl _) h2 c2 r2 (fun u v g1 g2 g3 g4=>s2 u v g1 g2 (by omega))
 refine ot t_int ?_
 have w:IntKind.i64.wrap (((a:Nat):Int)+(1:Int))=((a+1:Nat):Int):=zq (by omega)
 rw [w]
 by_cases e:a=b
 ·subst e
  exact ot zpn (fkf (decide_eq_false (by omega)) (hK O N xs h Chg.refl Rg.refl (fun u v g1 g2 g3=>by omega)))
 ·exact outer (b - (a+1)) (a+1) O N xs (by omega) (by omega) h Chg.refl Rg.refl (fun u v g1 g2 g3=>by omega)
end Go.Proofs.Ytcdigdplhlgcaaa.gx
end
section
set_option maxRecDepth 100000
set_option linter.unusedVariables false
set_option linter.unusedSectionVars false
set_option linter.unusedSimpArgs false
namespace Go.Proofs.Ytcdigdplhlgcaaa.gx
open Go Ev tp
theorem zsn {x y z:zg}(h:Op.bytesLess y x=false)(g:Op.bytesLess y z=true):Op.bytesLess x z=true:=by
 cases e:Op.bytesLess x z with
 | true=>rfl
 | false=>rw [zl5 g e] at h; cases h
theorem zrL {x y z:zg}(h:Op.bytesLess x y=true)(g:Op.bytesLess z y=false):Op.bytesLess x z=true:=zl5 h g
theorem zdq {a b:Nat}(h:a+b<1000000000):IntKind.i64.wrap ((IntKind.u64.wrap (IntKind.i64.wrap (((a:Nat):Int)+((b:Nat):Int)))).fdiv ((2:Int) ^ min (Int.toNat (1:Int)) IntKind.u64.bits))=(((a+b) / 2:Nat):Int):=by
 have w1:IntKind.i64.wrap (((a:Nat):Int)+((b:Nat):Int))=((a+b:Nat):Int):=by rw [IntKind.wrap_i64]; omega
 have w2:IntKind.u64.wrap ((a+b:Nat):Int)=((a+b:Nat):Int):=by rw [IntKind.wrap_u64]; omega
 have w3:(2:Int) ^ min (Int.toNat (1:Int)) IntKind.u64.bits=2:=rfl
 rw [w1,w2,w3,Int.fdiv_eq_ediv_of_nonneg _ (by decide)]
 have w4:((a+b:Nat):Int) / 2=(((a+b) / 2:Nat):Int):=by omega
 rw [w4,IntKind.wrap_i64]
 omega
def shl (xs:List TE) (a e k:Nat):TE:=if k<a then Fx xs k else if k<e then Fx xs (k+1) else if k=e then Fx xs a else Fx xs k
theorem zhp {xs:List TE}{a k:Nat}:Fx xs k=shl xs a a k:=by
 unfold shl
 by_cases h:k<a
 ·rw [if_pos h]
 ·rw [if_neg h,if_neg h]
  by_cases g:k=a
  ·rw [if_pos g,g]
  ·rw [if_neg g]
theorem zmj {xs ys:List TE}{a e:Nat}(hl:ys.length=xs.length)(he:a≤e∧e+1<xs.length)(hf:∀ k,Fx ys k=shl xs a e k)(k:Nat):Fx (swp ys (e+1) e) k=shl xs a (e+1) k:=by
 rw [zfe (by omega) (by omega),hf,hf,hf]
 unfold shl
 repeat' split
 all_goals first | (exfalso; omega) | rfl | (congr 1; omega)
theorem zqE {xs ys:List TE}{a e b:Nat}(hl:ys.length=xs.length)(he:a≤e∧e<b)(hf:∀ k,Fx ys k=shl xs a e k):Rg xs ys a b:=by
 refine Rg.of hl (fun k hk=>?_) (fun k h1 h2=>?_) (fun k h1 h2=>?_)
 ·rw [hf]
  unfold shl
  repeat' split
  all_goals first | (exfalso; omega) | rfl
 ·rw [hf]
  unfold shl
  split
  ·omega
  ·split
   ·exact ⟨k+1,by omega,by omega,rfl⟩
   ·split
    ·exact ⟨a,by omega,by omega,rfl⟩
    ·exact ⟨k,h1,h2,rfl⟩
 ·by_cases h3:k=a
  ·exact ⟨e,he.1,he.2,by rw [hf,h3]; unfold shl; rw [if_neg (by omega),if_neg (by omega),if_pos rfl]⟩
  ·by_cases h4:k≤e
   ·refine ⟨k - 1,by omega,by omega,?_⟩
    rw [hf]
    unfold shl
    rw [if_neg (by omega),if_pos (by omega)]
    congr 1
    omega
   ·exact ⟨k,h1,h2,by rw [hf]; unfold shl; rw [if_neg (by omega),if_neg (by omega),if_neg (by omega)]⟩
theorem zp2 {xs ys:List TE}{a i b:Nat}(hi:a<i∧i≤b)(hf:∀ k,Fx ys k=shl xs a (i - 1) k)(h1:∀ u,a<u→u<i→Op.bytesLess (Fx xs u).1 (Fx xs a).1=true)(h2:∀ u,i≤u→u<b→Op.bytesLess (Fx xs u).1 (Fx xs a).1=false)(h3:Sor xs (a+1) b):Sor ys a b:=by
 intro u v g1 g2 g3
 rw [hf,hf]
 unfold shl
 rw [if_neg (show ¬ v<a by omega),if_neg (show ¬ u<a by omega)]
 by_cases e1:v<i - 1
 ·rw [if_pos e1,if_pos (show u<i - 1 by omega)]
  exact h3 _ _ (by omega) (by omega) (by omega)
 ·rw [if_neg e1]
  by_cases e2:v=i - 1
  ·rw [if_pos e2,if_pos (show u<i - 1 by omega)]
   exact jw (h1 _ (by omega) (by omega))
  ·rw [if_neg e2]
   by_cases e3:u<i - 1
   ·rw [if_pos e3]
    exact h3 _ _ (by omega) (by omega) (by omega)
   ·rw [if_neg e3]
    by_cases e4:u=i - 1
    ·rw [if_pos e4]
     exact h2 v (by omega) g3
    ·rw [if_neg e4]
     exact h3 _ _ (by omega) (by omega) (by omega)
def shr (xs:List TE) (e m k:Nat):TE:=if k<e then Fx xs k else if k=e then Fx xs m else if k≤m then Fx xs (k - 1) else Fx xs k
theorem zgZ {xs:List TE}{m k:Nat}:Fx xs k=shr xs m m k:=by
 unfold shr
 split
 ·rfl
 ·split
  ·rename_i h; rw [h]
  ·split
   ·omega
   ·rfl
theorem zmp {xs ys:List TE}{e m:Nat}(hl:ys.length=xs.length)(he:0<e∧e≤m∧m<xs.length)(hf:∀ k,Fx ys k=shr xs e m k)(k:Nat):Fx (swp ys (e - 1) e) k=shr xs (e - 1) m k:=by
 rw [zfe (by omega) (by omega),hf,hf,hf]
 unfold shr
 repeat' split
 all_goals first | (exfalso; omega) | rfl | (congr 1; omega)
theorem zqY {xs ys:List TE}{a e m:Nat}(hl:ys.length=xs.length)(he:a≤e∧e≤m)(hf:∀ k,Fx ys k=shr xs e m k):Rg xs ys a (m+1):=by
 refine Rg.of hl (fun k hk=>?_) (fun k h1 h2=>?_) (fun k h1 h2=>?_)
 ·rw [hf]
  unfold shr
  repeat' split
  all_goals first | (exfalso; omega) | rfl
 ·rw [hf]
  unfold shr
  split
  ·exact ⟨k,h1,h2,rfl⟩
  ·split
   ·exact ⟨m,by omega,by omega,rfl⟩
   ·split
    ·exact ⟨k - 1,by omega,by omega,rfl⟩
    ·omega
 ·by_cases h3:k=m
  ·exact ⟨e,he.1,by omega,by rw [hf,h3]; unfold shr; rw [if_neg (by omega),if_pos rfl]⟩
  ·by_cases h4:k<e
   ·exact ⟨k,h1,h2,by rw [hf]; unfold shr; rw [if_pos h4]⟩
   ·refine ⟨k+1,by omega,by omega,?_⟩
    rw [hf]
    unfold shr
    rw [if_neg (by omega),if_neg (by omega),if_pos (by omega)]
    congr 1
theorem zpz {xs ys:List TE}{a i m:Nat}(hi:a≤i∧i≤m)(hf:∀ k,Fx ys k=shr xs i m k)(h1:∀ u,a≤u→u<i→Op.bytesLess (Fx xs m).1 (Fx xs u).1=false)(h2:∀ u,i≤u→u<m→Op.bytesLess (Fx xs m).1 (Fx xs u).1=true)(h3:Sor xs a m):Sor ys a (m+1):=by
 intro u v g1 g2 g3
 rw [hf,hf]
 unfold shr
 by_cases e1:v<i
 ·rw [if_pos e1,if_pos (show u<i by omega)]
  exact h3 _ _ (by omega) (by omega) (by omega)
 ·rw [if_neg e1]
  by_cases e2:v=i
  ·rw [if_pos e2,if_pos (show u<i by omega)]
   exact h1 u g1 (by omega)
  ·rw [if_neg e2,if_pos (show v≤m by omega)]
   by_cases e3:u<i
   ·rw [if_pos e3]
    exact h3 _ _ (by omega) (by omega) (by omega)
   ·rw [if_neg e3]
    by_cases e4:u=i
    ·rw [if_pos e4]
     exact jw (h2 _ (by omega) (by omega))
    ·rw [if_neg e4,if_pos (show u≤m by omega)]
     exact h3 _ _ (by omega) (by omega) (by omega)
def s0 (a m b:Nat):Nat:=if (a+b) / 2<m then (a+b) / 2+m - b else a
def r0 (a m b:Nat):Nat:=if (a+b) / 2<m then (a+b) / 2 else m
theorem zsc {a m b:Nat}(h1:a<m)(h2:m<b):a≤s0 a m b∧s0 a m b≤r0 a m b∧r0 a m b≤m∧r0 a m b≤(a+b) / 2∧(a+b) / 2+m - s0 a m b≤b∧m≤(a+b) / 2+m - r0 a m b:=by
 unfold s0 r0
 split <;> omega
theorem zrZ {xs ys:List TE}{a b s m e:Nat}(hl:ys.length=xs.length)(h1:a≤s)(h2:s≤m)(h3:m≤e)(h4:e≤b)(hf:∀ k,Fx ys k=zam (Fx xs) s m e k):Rg xs ys a b:=by
 refine Rg.of hl (fun k hk=>?_) (fun k g1 g2=>?_) (fun k g1 g2=>?_)
 ·rw [hf]
  unfold zam
  rw [if_neg (by omega),if_neg (by omega)]
 ·rw [hf]
  unfold zam
  split
  ·exact ⟨k - s+m,by omega,by omega,rfl⟩
  ·split
   ·exact ⟨k - (e - m),by omega,by omega,rfl⟩
   ·exact ⟨k,g1,g2,rfl⟩
 ·by_cases e1:m≤k∧k<e
  ·refine ⟨k - m+s,by omega,by omega,?_⟩
   rw [hf]
   unfold zam
   rw [if_pos (by omega)]
   congr 1
   omega
  ·by_cases e2:s≤k∧k<m
   ·refine ⟨k+(e - m),by omega,by omega,?_⟩
    rw [hf]
    unfold zam
    rw [if_neg (by omega),if_pos (by omega)]
    congr 1
    omega
   ·exact ⟨k,g1,g2,by rw [hf]; unfold zam; rw [if_neg (by omega),if_neg (by omega)]⟩
theorem zoO {xs:List TE}{s m e k:Nat}(h:s=m∨e=m)(hs:s≤m)(he:m≤e):Fx xs k=zam (Fx xs) s m e k:=by
 unfold zam
 rcases h with rfl | rfl
 ·split
  ·congr 1; omega
  ·split
   ·omega
   ·rfl
 ·split
  ·omega
  ·split
   ·congr 1
    omega
   ·rfl
theorem zne {xs ys:List TE}{a m b s:Nat}(h1:a<m)(h2:m<b)(hs:s0 a m b≤s∧s≤r0 a m b)(hf:∀ k,Fx ys k=zam (Fx xs) s m ((a+b) / 2+m - s) k)(hA:∀ u,s0 a m b≤u→u<s→Op.bytesLess (Fx xs ((a+b) / 2+m - 1 - u)).1 (Fx xs u).1=false)(hB:∀ u,s≤u→u<r0 a m b→Op.bytesLess (Fx xs ((a+b) / 2+m - 1 - u)).1 (Fx xs u).1=true)(l:Sor xs a m)(r:Sor xs m b) :
 Sor ys a s∧Sor ys s ((a+b) / 2)∧Sor ys ((a+b) / 2) ((a+b) / 2+m - s)∧Sor ys ((a+b) / 2+m - s) b∧∀ u v,a≤u→u<(a+b) / 2→(a+b) / 2≤v→v<b→Op.bytesLess (Fx ys v).1 (Fx ys u).1=false:=by
 obtain ⟨q1,q2,q3,q4,q5,q6⟩:=zsc h1 h2
 have hs0:s0 a m b=a∨(a+b) / 2+m - s0 a m b=b:=by unfold s0; split <;> omega
 have hr0:r0 a m b=(a+b) / 2∨r0 a m b=m:=by unfold r0; split <;> omega
 generalize hM:(a+b) / 2=M at *
 generalize hS:s0 a m b=S at *
 generalize hR:r0 a m b=R at *
 have f1:∀ k,k<s→Fx ys k=Fx xs k:=fun k hk=>by rw [hf]; unfold zam; rw [if_neg (by omega),if_neg (by omega)]
 have f2:∀ k,s≤k→k<M→Fx ys k=Fx xs (k - s+m):=fun k g1 g2=>by rw [hf]; unfold zam; rw [if_pos (by omega)]
 have f3:∀ k,M≤k→k<M+m - s→Fx ys k=Fx xs (k - M+s):=fun k g1 g2=>by rw [hf]; unfold zam; rw [if_neg (by omega),if_pos (by omega)]; congr 1; omega
 have f4:∀ k,M+m - s≤k→Fx ys k=Fx xs k:=fun k g1=>by rw [hf]; unfold zam; rw [if_neg (by omega),if_neg (by omega)]
 refine ⟨fun u v g1 g2 g3=>?_,fun u v g1 g2 g3=>?_,fun u v g1 g2 g3=>?_,fun u v g1 g2 g3=>?_,fun u v g1 g2 g3 g4=>?_⟩
 ·rw [f1 v g3,f1 u (by omega)]
  exact l u v g1 g2 (by omega)
 ·rw [f2 v (by omega) g3,f2 u g1 (by omega)]
  exact r _ _ (by omega) (by omega) (by omega)
 ·rw [f3 v (by omega) g3,f3 u g1 (by omega)]
  exact l _ _ (by omega) (by omega) (by omega)
 ·rw [f4 v (by omega),f4 u g1]
  exact r _ _ (by omega) g2 g3
 ·by_cases e1:u<s
  ·rw [f1 u e1]
   by_cases e2:v<M+m - s
   ·rw [f3 v g3 e2]
    exact l _ _ g1 (by omega) (by omega)
   ·rw [f4 v (by omega)]
    have k1:Op.bytesLess (Fx xs (s - 1)).1 (Fx xs u).1=false:=by
     by_cases e:u=s - 1
     ·rw [e]; exact kE _
     ·exact l _ _ g1 (by omega) (by omega)
    have k2:=hA (s - 1) (by omega) (by omega)
    rw [show M+m - 1 - (s - 1)=M+m - s by omega] at k2
    have k3:Op.bytesLess (Fx xs v).1 (Fx xs (M+m - s)).1=false:=by
     by_cases e:v=M+m - s
     ·rw [e]; exact kE _
     ·exact r _ _ (by omega) (by omega) (by omega)
    exact le_trans (le_trans k1 k2) k3
  ·rw [f2 u (by omega) g2]
   by_cases e2:v<M+m - s
   ·rw [f3 v g3 e2]
    have k1:Op.bytesLess (Fx xs (M+m - 1 - s)).1 (Fx xs (u - s+m)).1=false:=by
     by_cases e:u - s+m=M+m - 1 - s
     ·rw [e]; exact kE _
     ·exact r _ _ (by omega) (by omega) (by omega)
    have k2:=hB s (Nat.le_refl _) (by omega)
    have k3:Op.bytesLess (Fx xs (v - M+s)).1 (Fx xs s).1=false:=by
     by_cases e:v - M+s=s
     ·rw [e]; exact kE _
     ·exact l _ _ (by omega) (by omega) (by omega)
    exact le_trans (le_trans k1 (jw k2)) k3
   ·rw [f4 v (by omega)]
    exact r _ _ (by omega) (by omega) g4
theorem zpU {ys zs ws:List TE}{a M b:Nat}(ha:a≤M)(hb:M≤b)(h:∀ u v,a≤u→u<M→M≤v→v<b→Op.bytesLess (Fx ys v).1 (Fx ys u).1=false)(r1:Rg ys zs a M)(s1:Sor zs a M)(r2:Rg zs ws M b)(s2:Sor ws M b):Sor ws a b:=by
 intro u v g1 g2 g3
 by_cases e1:v<M
 ·rw [r2.2.1 v (.inl e1),r2.2.1 u (.inl (by omega))]
  exact s1 u v g1 g2 e1
 ·by_cases e2:M≤u
  ·exact s2 u v e2 g2 g3
  ·obtain ⟨v',k1,k2,k3⟩:=(r2.2.2 _).1 ⟨v,by omega,g3,rfl⟩
   obtain ⟨u',k4,k5,k6⟩:=(r1.2.2 _).1 ⟨u,g1,by omega,rfl⟩
   rw [← k3,r1.2.1 v' (.inr k1),r2.2.1 u (.inl (by omega)),← k6]
   exact h u' v' k4 k5 k1 k2
end Go.Proofs.Ytcdigdplhlgcaaa.gx
end
section
set_option maxRecDepth 100000
set_option linter.unusedVariables false
set_option linter.unusedSectionVars false
set_option linter.unusedSimpArgs false
namespace Go.Proofs.Ytcdigdplhlgcaaa.gx
open Go Ev tp
section
variable (n j j2:Int) (sl:AV) (nn:Int) (i1 i2 i3 i4 i5 i6:Nat) (s1 s2:AV) (l1 l2:List UInt8) (a b h p3:Int) (rest:List AFrame) (O:T AObj) (N:Nat) (G:T (T AV))
noncomputable def zqm:AM:=⟨⟨126,220,(tW (tW (tX tZ (tY (.int .i64 b))) (.int .i64 j) tZ) sl (tX (tY (.fn (Fn.func (69:FuncId)) [] [])) (tX (tY (.int .i64 a)) tZ))),   [.code (cd P 126 [0,1,0,1,1,0,0,0]),.inLoop (cd P 126 [0,1,0,1,1,0,0,0]),.inBlock 0,.code (cd P 126 [0,1,0,1,1,1]),.code (cd P 126 [1])],[],.run,CallKind.normal,none⟩,rest,⟨O,N,G⟩⟩
noncomputable def zqo:AM:=⟨⟨126,220,(tW (tX (tX (tX (tY (.int .i64 b)) tZ) tZ) tZ) sl (tW (tY (.fn (Fn.func (69:FuncId)) [] [])) (.int .i64 j2) (tX tZ (tY (.int .i64 a))))),   [.code (cd P 126 [1,0,1,0,1,1,0,0,0]),.inLoop (cd P 126 [1,0,1,0,1,1,0,0,0]),.inBlock 4,.code (cd P 126 [1,0,1,0,1,1,1]),.code (cd P 126 [1,1])],[],.run,CallKind.normal,none⟩,rest,⟨O,N,G⟩⟩
noncomputable def zpY:AM:=⟨⟨126,220,(tW (tW (tW tZ (.int .i64 n) (tX (tY (.int .i64 nn)) tZ)) (.int .i64 j) (tX tZ (tX (tY (.int .i64 b)) tZ))) sl (tW (tW tZ (.fn (Fn.func (69:FuncId)) [] []) (tX (tY (.int .i64 a)) tZ)) (.int .i64 j2) (tX (tX (tY (.int .i64 h)) tZ) (tX (tY (.int .i64 p3)) tZ)))),   [.code (cd P 126 [1,1,1,1,1,1,1,0,0,0]),.inLoop (cd P 126 [1,1,1,1,1,1,1,0,0,0]),.inBlock 8,.code (cd P 126 [1,1,1,1,1,1,1,1])],[],.run,CallKind.normal,none⟩,rest,⟨O,N,G⟩⟩
noncomputable def zsm:AFrame:=⟨126,220,(tW (tW (tW (tX (tX (tX tZ (tX (tY sl) tZ)) tZ) (tW (tX tZ (tX (tY (.ptr i4 i5 i6)) tZ)) (.int .i64 (IntKind.i64.wrap ((IntKind.u64.wrap (IntKind.i64.wrap (a+b))).fdiv ((2:Int) ^ min (Int.toNat (1:Int)) IntKind.u64.bits)))) (tX (tX (tY (.bool true)) tZ) tZ))) (.int .i64 n) (tX (tW (tX tZ (tX (tY (.ptr i1 i2 i3)) tZ)) (.int .i64 nn) tZ) (tX tZ (tX (tX (tY (.int .u64 (IntKind.u64.wrap (IntKind.i64.wrap (a+b))))) tZ) tZ)))) (.int .i64 j) (tX (tX (tX (tX tZ (tX (tY (.int .i64 (IntKind.i64.wrap ((IntKind.u64.wrap (IntKind.i64.wrap (a+b))).fdiv ((2:Int) ^ min (Int.toNat (1:Int)) IntKind.u64.bits))))) tZ)) tZ) (tX tZ (tX (tX (tY (.int .i64 b)) tZ) tZ))) (tX (tW (tX tZ (tX (tY sl) tZ)) (.int .i64 b) (tX (tX (tY (.int .i64 a)) tZ) tZ)) (tX tZ (tX (tX (tY (.int .i64 (IntKind.i64.wrap ((IntKind.u64.wrap (IntKind.i64.wrap (a+b))).fdiv ((2:Int) ^ min (Int.toNat (1:Int)) IntKind.u64.bits))))) tZ) tZ))))) sl (tW (tW (tX (tX (tX tZ (tX (tY (.int .i64 p3)) tZ)) tZ) (tX (tX tZ (tX (tY (.agg [.str l2,s2])) tZ)) (tX (tX (tY (.int .i64 a)) tZ) tZ))) (.fn (Fn.func (69:FuncId)) [] []) (tX (tW (tX tZ (tX (tY (.agg [.str l1,s1])) tZ)) (.int .i64 a) tZ) (tX tZ (tX (tX (tY (.int .u64 ((IntKind.u64.wrap (IntKind.i64.wrap (a+b))).fdiv ((2:Int) ^ min (Int.toNat (1:Int)) IntKind.u64.bits)))) tZ) tZ)))) (.int .i64 j2) (tX (tX (tW (tX tZ (tX (tY (.int .i64 (IntKind.i64.wrap (p3 - IntKind.i64.wrap ((IntKind.u64.wrap (IntKind.i64.wrap (a+b))).fdiv ((2:Int) ^ min (Int.toNat (1:Int)) IntKind.u64.bits)))))) tZ)) (.int .i64 h) tZ) (tX tZ (tX (tX (tY (.int .i64 (IntKind.i64.wrap (a+b)))) tZ) tZ))) (tX (tW (tX tZ (tX (tY (.int .i64 (IntKind.i64.wrap ((IntKind.u64.wrap (IntKind.i64.wrap (a+b))).fdiv ((2:Int) ^ min (Int.toNat (1:Int)) IntKind.u64.bits))))) tZ)) (.int .i64 p3) (tX (tX (tY (.int .i64 b)) tZ) tZ)) (tX tZ (tX (tX (tY (.fn (Fn.func (69:FuncId)) [] [])) tZ) tZ)))))),   [.drw (rg P 126 [1,1,1,1,1,1,1,0,0,0,1,0,1,0]) [11,12,13] [10,9,8,7,6,5,4,3,2,1,0],.code (cd P 126 [1,1,1,1,1,1,1,0,0,0,1,0,1,1]),.inBlock 9,.inLoop (cd P (126:FuncId) [1,1,1,1,1,1,1,0,0,0]),.inBlock 8,.code (cd P (126:FuncId) [1,1,1,1,1,1,1,1])],[],.run,CallKind.normal,none⟩
noncomputable def zk0:AFrame:=⟨126,220,(tW (tW (tW tZ (.int .i64 n) (tX tZ (tX tZ (tX tZ (tX (tY (.int .i64 a)) tZ))))) (.int .i64 j) (tX tZ (tX tZ (tX tZ (tX tZ (tX (tY (.int .i64 (IntKind.i64.wrap (nn - a)))) tZ)))))) sl (tX (tW (tX tZ (tY (.int .i64 (IntKind.i64.wrap (nn - a))))) (.fn (Fn.func (69:FuncId)) [] []) (tX (tY (.int .i64 a)) (tX tZ (tX tZ (tX (tY (.int .i64 j2)) tZ))))) (tX (tX (tY (.int .i64 h)) (tX tZ (tX tZ (tX (tY sl) tZ)))) (tX tZ (tX tZ (tX tZ (tX (tY (.fn (Fn.func (69:FuncId)) [] [])) tZ))))))),   [.ops (rg P 126 [1,1,1,1,1,1,1,1,1,0,1,0]).toList ((rg P 126 [1,1,1,1,1,1,1,1,1,0,1,0]).toList.drop 5),.code (cd P 126 [1,1,1,1,1,1,1,1,1,1])],[],.run,CallKind.normal,none⟩
noncomputable def zqj:AM:=⟨⟨126,220,(tW (tW (tY (.int .i64 n)) (.int .i64 j) tZ) sl (tX (tW (tX tZ (tY (.int .i64 b))) (.fn (Fn.func (69:FuncId)) [] []) (tX (tY (.int .i64 a)) tZ)) (tX (tX (tY (.int .i64 h)) tZ) tZ))),   [.code (cd P 126 [1,1,1,1,1,1,1,1,1,1])],[],.run,CallKind.normal,none⟩,rest,⟨O,N,G⟩⟩
noncomputable def zox:AFrame:=⟨126,220,(tW (tX (tW tZ (.int .i64 n) (tX tZ (tX (tX (tX tZ (tY (.int .i64 h))) tZ) tZ))) (tX (tX tZ (tX (tX (tX tZ (tY (.int .i64 j))) tZ) tZ)) tZ)) sl (tX (tW (tX tZ (tW (tX (tX tZ (tY sl)) tZ) (.int .i64 b) tZ)) (.fn (Fn.func (69:FuncId)) [] []) (tX tZ (tX (tX (tX tZ (tY (.fn (Fn.func (69:FuncId)) [] []))) tZ) tZ))) (tX (tX (tY (.int .i64 h)) (tX (tX (tX tZ (tY (.int .i64 a))) tZ) tZ)) tZ))),   [.ops (rg P 126 [1,1,1,1,1,1,1,1,1,1,0,1,0]).toList ((rg P 126 [1,1,1,1,1,1,1,1,1,1,0,1,0]).toList.drop 5),.code (cd P 126 [1,1,1,1,1,1,1,1,1,1,1])],[],.run,CallKind.normal,none⟩
noncomputable def zqh:AM:=⟨⟨126,220,(tW (tX (tY (.int .i64 n)) tZ) sl (tX (tW (tX tZ (tY (.int .i64 b))) (.fn (Fn.func (69:FuncId)) [] []) tZ) (tX (tX (tY (.int .i64 h)) tZ) tZ))),   [.code (cd P 126 [1,1,1,1,1,1,1,1,1,1,1])],[],.run,CallKind.normal,none⟩,rest,⟨O,N,G⟩⟩
noncomputable def zn8:AFrame:=⟨126,220,(tX (tX (tX (tX tZ (tX tZ (tX (tX tZ (tY (.int .i64 h))) tZ))) tZ) (tX (tX tZ (tX tZ (tX (tX tZ (tY (.int .i64 n))) tZ))) tZ)) (tX (tX (tX tZ (tX tZ (tX (tX tZ (tY (.int .i64 b))) tZ))) tZ) (tX (tX tZ (tX tZ (tX (tX tZ (tY (.fn (Fn.func (69:FuncId)) [] []))) tZ))) (tX (tX tZ (tX (tX tZ (tY sl)) tZ)) tZ)))),   [.ops (rg P 126 [1,1,1,1,1,1,1,1,1,1,1,1,0]).toList ((rg P 126 [1,1,1,1,1,1,1,1,1,1,1,1,0]).toList.drop 5)],[],.run,CallKind.normal,none⟩
noncomputable def zss:AFrame:=⟨126,220,(tW (tW (tX (tX (tX (tY (.int .i64 a)) (tY (.ptr i4 i5 i6))) (tX (tY (.int .i64 (IntKind.i64.wrap ((IntKind.u64.wrap (IntKind.i64.wrap (a+b))).fdiv ((2:Int) ^ min (Int.toNat (1:Int)) IntKind.u64.bits))))) tZ)) (tW (tX (tY (.int .i64 b)) tZ) (.int .i64 b) (tX (tY (.ptr i1 i2 i3)) tZ))) (.int .i64 j) (tX (tX (tX (tY (.bool true)) tZ) (tX (tY sl) tZ)) (tX (tX (tY (.int .u64 (IntKind.u64.wrap (IntKind.i64.wrap (a+b))))) tZ) (tX (tY sl) tZ)))) sl (tX (tW (tX (tX (tY (.int .i64 b)) (tY (.agg [.str l2,s2]))) (tX (tY (.fn (Fn.func (69:FuncId)) [] [])) tZ)) (.fn (Fn.func (69:FuncId)) [] []) (tW (tX (tY (.int .i64 (IntKind.i64.wrap (a+b)))) tZ) (.int .i64 (IntKind.i64.wrap ((IntKind.u64.wrap (IntKind.i64.wrap (a+b))).fdiv ((2:Int) ^ min (Int.toNat (1:Int)) IntKind.u64.bits)))) (tX (tY (.agg [.str l1,s1])) tZ))) (tX (tW (tX (tY (.int .i64 a)) tZ) (.int .i64 a) (tX (tY (.int .i64 (IntKind.i64.wrap ((IntKind.u64.wrap (IntKind.i64.wrap (a+b))).fdiv ((2:Int) ^ min (Int.toNat (1:Int)) IntKind.u64.bits))))) tZ)) (tX (tX (tY (.int .u64 ((IntKind.u64.wrap (IntKind.i64.wrap (a+b))).fdiv ((2:Int) ^ min (Int.toNat (1:Int)) IntKind.u64.bits)))) tZ) (tX (tY (.int .i64 j)) tZ))))),   [.drw (rg P 126 [0,1,0,1,1,0,0,0,1,0,1,0]) [9,10] [8,7,6,5,4,3,2,1,0],.code (cd P 126 [0,1,0,1,1,0,0,0,1,0,1,1]),.inBlock 1,.inLoop (cd P (126:FuncId) [0,1,0,1,1,0,0,0]),.inBlock 0,.code (cd P (126:FuncId) [0,1,0,1,1,1]),.code (cd P (126:FuncId) [1])],[],.run,CallKind.normal,none⟩
noncomputable def Wsyk:AM:=⟨⟨126,220,(tW (tX tZ (tX tZ (tY (.int .i64 h)))) sl (tX tZ (tX (tY (.int .i64 a)) tZ))),   [.code (cd P 126 [0,1,0,1,1,1,0,1,0,0]),.inLoop (cd P 126 [0,1,0,1,1,1,0,1,0,0]),.inBlock 2,.code (cd P 126 [0,1,0,1,1,1,1]),.code (cd P (126:FuncId) [1])],[],.run,CallKind.normal,none⟩,rest,⟨O,N,G⟩⟩
noncomputable def zqT:AFrame:=⟨126,220,(tW (tX (tX (tX (tW (tX tZ (tY (.ptr i1 i2 i3))) (.int .i64 b) tZ) (tX tZ (tX (tY (.int .i64 b)) tZ))) (tX (tX (tX tZ (tY (.ptr i4 i5 i6))) (tX (tY (.int .i64 a)) tZ)) (tX tZ (tX (tY (.int .i64 (IntKind.i64.wrap ((IntKind.u64.wrap (IntKind.i64.wrap (a+b))).fdiv ((2:Int) ^ min (Int.toNat (1:Int)) IntKind.u64.bits))))) tZ)))) (tX (tX (tX (tX tZ (tY sl)) tZ) (tX tZ (tX (tY (.int .u64 (IntKind.u64.wrap (IntKind.i64.wrap (a+b))))) tZ))) (tX (tX tZ (tX (tY (.bool true)) tZ)) (tX tZ (tX (tY sl) tZ))))) sl (tW (tW (tX (tW (tX tZ (tY (.agg [.str l1,s1]))) (.int .i64 (IntKind.i64.wrap ((IntKind.u64.wrap (IntKind.i64.wrap (a+b))).fdiv ((2:Int) ^ min (Int.toNat (1:Int)) IntKind.u64.bits)))) tZ) (tX tZ (tX (tY (.int .i64 (IntKind.i64.wrap (a+b)))) tZ))) (.fn (Fn.func (69:FuncId)) [] []) (tX (tX (tX tZ (tY (.agg [.str l2,s2]))) (tX (tY (.int .i64 b)) tZ)) (tX tZ (tX (tY (.fn (Fn.func (69:FuncId)) [] [])) tZ)))) (.int .i64 j2) (tX (tX (tX (tX tZ (tY (.int .i64 (IntKind.i64.wrap ((IntKind.u64.wrap (IntKind.i64.wrap (a+b))).fdiv ((2:Int) ^ min (Int.toNat (1:Int)) IntKind.u64.bits)))))) tZ) (tX tZ (tX (tY (.int .u64 ((IntKind.u64.wrap (IntKind.i64.wrap (a+b))).fdiv ((2:Int) ^ min (Int.toNat (1:Int)) IntKind.u64.bits)))) tZ))) (tW (tX tZ (tX (tY (.int .i64 a)) tZ)) (.int .i64 a) (tX tZ (tX (tY (.int .i64 j2)) tZ)))))),   [.drw (rg P 126 [1,0,1,0,1,1,0,0,0,1,0,1,0]) [9,10,11] [8,7,6,5,4,3,2,1,0],.code (cd P 126 [1,0,1,0,1,1,0,0,0,1,0,1,1]),.inBlock 5,.inLoop (cd P (126:FuncId) [1,0,1,0,1,1,0,0,0]),.inBlock 4,.code (cd P (126:FuncId) [1,0,1,0,1,1,1]),.code (cd P (126:FuncId) [1,1])],[],.run,CallKind.normal,none⟩
noncomputable def Wsyl:AM:=⟨⟨126,220,(tW (tX tZ (tX (tX (tY (.int .i64 h)) tZ) tZ)) sl (tX tZ (tX tZ (tY (.int .i64 a))))),   [.code (cd P 126 [1,0,1,0,1,1,1,0,1,0,0]),.inLoop (cd P 126 [1,0,1,0,1,1,1,0,1,0,0]),.inBlock 6,.code (cd P 126 [0,1,0,1,1,1,1]),.code (cd P (126:FuncId) [1,1])],[],.run,CallKind.normal,none⟩,rest,⟨O,N,G⟩⟩
end
section
variable {R:AV→AHeap→Prop} {keep N i1c i2c i3c i4c i5c i6c:Nat} {f0:FuncId} {rest:List AFrame} {O:T AObj} {n j j2 a b crq0 h nn p3:Int} {sl s1c s2c:AV} {G:T (T AV)} {K:AM→Prop} {td:List AItem} {l1c l2c:List UInt8}
theorem t_sym:((((IntKind.i64.wrap (j2 - j)==(1:Int)))=true→(K (zqm j sl j2 n rest O N G)))∧(((IntKind.i64.wrap (j2 - j)==(1:Int)))=false→((((IntKind.i64.wrap (n - j2)==(1:Int)))=true→(K (zqo j2 sl j j2 rest O N G)))∧(((IntKind.i64.wrap (n - j2)==(1:Int)))=false→(((decide (j2 > IntKind.i64.wrap ((IntKind.u64.wrap (IntKind.i64.wrap (j+n))).fdiv ((2:Int) ^ min (Int.toNat (1:Int)) IntKind.u64.bits))))=true→(K (zpY n j j2 sl (IntKind.i64.wrap (IntKind.i64.wrap ((IntKind.u64.wrap (IntKind.i64.wrap (j+n))).fdiv ((2:Int) ^ min (Int.toNat (1:Int)) IntKind.u64.bits))+j2)) (IntKind.i64.wrap (IntKind.i64.wrap (IntKind.i64.wrap ((IntKind.u64.wrap (IntKind.i64.wrap (j+n))).fdiv ((2:Int) ^ min (Int.toNat (1:Int)) IntKind.u64.bits))+j2) - n)) (IntKind.i64.wrap ((IntKind.u64.wrap (IntKind.i64.wrap (j+n))).fdiv ((2:Int) ^ min (Int.toNat (1:Int)) IntKind.u64.bits))) (IntKind.i64.wrap ((IntKind.u64.wrap (IntKind.i64.wrap (j+n))).fdiv ((2:Int) ^ min (Int.toNat (1:Int)) IntKind.u64.bits))) (IntKind.i64.wrap (IntKind.i64.wrap (IntKind.i64.wrap ((IntKind.u64.wrap (IntKind.i64.wrap (j+n))).fdiv ((2:Int) ^ min (Int.toNat (1:Int)) IntKind.u64.bits))+j2) - (1:Int))) rest O N G)))∧((decide (j2 > IntKind.i64.wrap ((IntKind.u64.wrap (IntKind.i64.wrap (j+n))).fdiv ((2:Int) ^ min (Int.toNat (1:Int)) IntKind.u64.bits))))=false→(K (zpY n j j2 sl (IntKind.i64.wrap (IntKind.i64.wrap ((IntKind.u64.wrap (IntKind.i64.wrap (j+n))).fdiv ((2:Int) ^ min (Int.toNat (1:Int)) IntKind.u64.bits))+j2)) j j2 (IntKind.i64.wrap ((IntKind.u64.wrap (IntKind.i64.wrap (j+n))).fdiv ((2:Int) ^ min (Int.toNat (1:Int)) IntKind.u64.bits))) (IntKind.i64.wrap (IntKind.i64.wrap (IntKind.i64.wrap ((IntKind.u64.wrap (IntKind.i64.wrap (j+n))).fdiv ((2:Int) ^ min (Int.toNat (1:Int)) IntKind.u64.bits))+j2) - (1:Int))) rest O N G))))))))=OT f0 R keep K (.seq [.run 8] (.fork 28 (.seq [.run 14,.keep [0,1,4,10,11]] .fin) (.seq [.run 10] (.fork 80 (.seq [.run 14,.keep [0,2,4,14,15]] .fin) (.seq [.run 31] (.fork 140 (.seq [.run 21,.keep [0,1,2,3,4,18,19,20,21,22]] .fin) (.seq [.run 19,.keep [0,1,2,3,4,18,19,20,21,22]] .fin))))))) ((AM.mk (enF 126 [sl,.int .i64 j,.int .i64 j2,.int .i64 n,.fn (Fn.func 69) [] []]) rest ⟨O,N,G⟩)):=by kernel_rfl
theorem zpb:(((decide (a<b))=true→(∃ (i1:Nat) (i2:Nat) (i3:Nat) (l1:List UInt8) (s1:AV) (i4:Nat) (i5:Nat) (i6:Nat) (l2:List UInt8) (s2:AV),(zf P (75) (sl) (.int .i64 (IntKind.i64.wrap ((IntKind.u64.wrap (IntKind.i64.wrap (a+b))).fdiv ((2:Int) ^ min (Int.toNat (1:Int)) IntKind.u64.bits))))=(some (.ptr i1 i2 i3)))∧(zb (⟨O,N,G⟩) (i1) (i2) (i3) (2)=(some [.str l1,s1]))∧(iX 75 sl j i4 i5 i6)∧(zb (⟨O,N,G⟩) (i4) (i5) (i6) (2)=(some [.str l2,s2]))∧K (AM.mk (enF 69 [.agg [.str l1,s1],.agg [.str l2,s2]]) ((zss j sl i1 i2 i3 i4 i5 i6 s1 s2 l1 l2 a b)::rest) ⟨O,N,G⟩)))∧((decide (a<b))=false→(K (Wsyk sl a j rest O N G))))=OT f0 R keep K (.seq [.run 7] (.fork 33 (.ex fun i1:Nat=>(.ex fun i2:Nat=>(.ex fun i3:Nat=>(.ex fun l1:List UInt8=>(.ex fun s1:AV=>(.ex fun i4:Nat=>(.ex fun i5:Nat=>(.ex fun i6:Nat=>(.ex fun l2:List UInt8=>(.ex fun s2:AV=>(.seq [.run 18,.hopn (.ptr i1 i2 i3) O (N),.hop (.agg [.str l1,s1]) O,.run 2,.hopn (.ptr i4 i5 i6) O (N),.hop (.agg [.str l2,s2]) O,.run 1] .fin))))))))))) (.seq [.run 10,.keep [0,10,13]] .fin))) ((zqm j sl a b rest O N G)):=by kernel_rfl
theorem zjX:(((decide (crq0<(0:Int)))=true→(K (zqm j sl (IntKind.i64.wrap (IntKind.i64.wrap ((IntKind.u64.wrap (IntKind.i64.wrap (a+b))).fdiv ((2:Int) ^ min (Int.toNat (1:Int)) IntKind.u64.bits))+(1:Int))) b rest O N G)))∧((decide (crq0<(0:Int)))=false→(K (zqm j sl a (IntKind.i64.wrap ((IntKind.u64.wrap (IntKind.i64.wrap (a+b))).fdiv ((2:Int) ^ min (Int.toNat (1:Int)) IntKind.u64.bits))) rest O N G))))=OT f0 R keep K (.seq [.run 3] (.fork 50 (.seq [.run 8,.keep [0,1,4,10,11]] .fin) (.seq [.run 7,.keep [0,1,4,10,11]] .fin))) ((AM.mk (RF 69 10 (tX tZ (tX (tY (.int .i64 crq0)) tZ)) td) ((zss j sl i1c i2c i3c i4c i5c i6c s1c s2c l1c l2c a b)::rest) ⟨O,N,G⟩)):=by kernel_rfl
theorem zro:(((decide (h<IntKind.i64.wrap (a - (1:Int))))=true→(∃ (i1:Nat) (i2:Nat) (i3:Nat) (l1:List UInt8) (s1:AV) (i4:Nat) (i5:Nat) (i6:Nat) (l2:List UInt8) (s2:AV) (i7:Nat) (i8:Nat) (i9:Nat) (O1:T AObj) (i10:Nat) (i11:Nat) (i12:Nat) (O2:T AObj),(zf P (75) (sl) (.int .i64 (IntKind.i64.wrap (h+(1:Int))))=(some (.ptr i1 i2 i3)))∧(zb (⟨O,N,G⟩) (i1) (i2) (i3) (2)=(some [.str l1,s1]))∧(iX 75 sl h i4 i5 i6)∧(zb (⟨O,N,G⟩) (i4) (i5) (i6) (2)=(some [.str l2,s2]))∧(iX 75 sl h i7 i8 i9)∧((AV.agg [AV.str l1,s1]).cells.length.beq (2)=true∧zc (⟨O,N,G⟩:AHeap) i7 i8 i9 (AV.agg [AV.str l1,s1]).cells=some (⟨O1,N,G⟩:AHeap))∧(qW P (⟨O1,N,G⟩) (BinOp.add) (3) (true) (.int .i64 h) (.int .i64 1)=(some (.int .i64 (IntKind.i64.wrap (h+(1:Int))))))∧(zf P (75) (sl) (.int .i64 (IntKind.i64.wrap (h+(1:Int))))=(some (.ptr i10 i11 i12)))∧((AV.agg [AV.str l2,s2]).cells.length.beq (2)=true∧zc (⟨O1,N,G⟩:AHeap) i10 i11 i12 (AV.agg [AV.str l2,s2]).cells=some (⟨O2,N,G⟩:AHeap))∧K (Wsyk sl a (IntKind.i64.wrap (h+(1:Int))) rest O2 N G)))∧((decide (h<IntKind.i64.wrap (a - (1:Int))))=false→(K (AM.mk (RF 126 220 .leaf [.code (cd P (126:FuncId) [0,1,0,1,1,1,1]),.code (cd P (126:FuncId) [1])]) rest ⟨O,N,G⟩))))=OT f0 R keep K (.seq [.run 8] (.fork 58 (.ex fun i1:Nat=>(.ex fun i2:Nat=>(.ex fun i3:Nat=>(.ex fun l1:List UInt8=>(.ex fun s1:AV=>(.ex fun i4:Nat=>(.ex fun i5:Nat=>(.ex fun i6:Nat=>(.ex fun l2:List UInt8=>(.ex fun s2:AV=>(.ex fun i7:Nat=>(.ex fun i8:Nat=>(.ex fun i9:Nat=>(.ex fun O1:T AObj=>(.ex fun i10:Nat=>(.ex fun i11:Nat=>(.ex fun i12:Nat=>(.ex fun O2:T AObj=>(.seq [.run 13,.hopn (.ptr i1 i2 i3) O (N),.hop (.agg [.str l1,s1]) O,.run 2,.hopn (.ptr i4 i5 i6) O (N),.hop (.agg [.str l2,s2]) O,.hopn (.ptr i7 i8 i9) O (N),.hopn (.nilp) O1 (N),.hopn (.ptr i10 i11 i12) O1 (N),.hopn (.nilp) O2 (N),.run 8,.keep [0,10,13]] .fin))))))))))))))))))) (.seq [.run 3,.keep []] .fin))) ((Wsyk sl a h rest O N G)):=by kernel_rfl
theorem zqa:(((decide (a<b))=true→(∃ (i1:Nat) (i2:Nat) (i3:Nat) (l1:List UInt8) (s1:AV) (i4:Nat) (i5:Nat) (i6:Nat) (l2:List UInt8) (s2:AV),(iX 75 sl j2 i1 i2 i3)∧(zb (⟨O,N,G⟩) (i1) (i2) (i3) (2)=(some [.str l1,s1]))∧(zf P (75) (sl) (.int .i64 (IntKind.i64.wrap ((IntKind.u64.wrap (IntKind.i64.wrap (a+b))).fdiv ((2:Int) ^ min (Int.toNat (1:Int)) IntKind.u64.bits))))=(some (.ptr i4 i5 i6)))∧(zb (⟨O,N,G⟩) (i4) (i5) (i6) (2)=(some [.str l2,s2]))∧K (AM.mk (enF 69 [.agg [.str l1,s1],.agg [.str l2,s2]]) ((zqT j2 sl i1 i2 i3 i4 i5 i6 s1 s2 l1 l2 a b)::rest) ⟨O,N,G⟩)))∧((decide (a<b))=false→(K (Wsyl sl a j2 rest O N G))))=OT f0 R keep K (.seq [.run 7] (.fork 85 (.ex fun i1:Nat=>(.ex fun i2:Nat=>(.ex fun i3:Nat=>(.ex fun l1:List UInt8=>(.ex fun s1:AV=>(.ex fun i4:Nat=>(.ex fun i5:Nat=>(.ex fun i6:Nat=>(.ex fun l2:List UInt8=>(.ex fun s2:AV=>(.seq [.run 18,.hopn (.ptr i1 i2 i3) O (N),.hop (.agg [.str l1,s1]) O,.run 2,.hopn (.ptr i4 i5 i6) O (N),.hop (.agg [.str l2,s2]) O,.run 1] .fin))))))))))) (.seq [.run 10,.keep [0,14,17]] .fin))) ((zqo j2 sl a b rest O N G)):=by kernel_rfl
theorem zj3:((((!decide (crq0<(0:Int))))=true→(K (zqo j2 sl (IntKind.i64.wrap (IntKind.i64.wrap ((IntKind.u64.wrap (IntKind.i64.wrap (a+b))).fdiv ((2:Int) ^ min (Int.toNat (1:Int)) IntKind.u64.bits))+(1:Int))) b rest O N G)))∧(((!decide (crq0<(0:Int))))=false→(K (zqo j2 sl a (IntKind.i64.wrap ((IntKind.u64.wrap (IntKind.i64.wrap (a+b))).fdiv ((2:Int) ^ min (Int.toNat (1:Int)) IntKind.u64.bits))) rest O N G))))=OT f0 R keep K (.seq [.run 4] (.fork 103 (.seq [.run 8,.keep [0,2,4,14,15]] .fin) (.seq [.run 7,.keep [0,2,4,14,15]] .fin))) ((AM.mk (RF 69 10 (tX tZ (tX (tY (.int .i64 crq0)) tZ)) td) ((zqT j2 sl i1c i2c i3c i4c i5c i6c s1c s2c l1c l2c a b)::rest) ⟨O,N,G⟩)):=by kernel_rfl
theorem zrB:(((decide (h > a))=true→(∃ (i1:Nat) (i2:Nat) (i3:Nat) (l1:List UInt8) (s1:AV) (i4:Nat) (i5:Nat) (i6:Nat) (l2:List UInt8) (s2:AV) (i7:Nat) (i8:Nat) (i9:Nat) (O1:T AObj) (i10:Nat) (i11:Nat) (i12:Nat) (O2:T AObj),(zf P (75) (sl) (.int .i64 (IntKind.i64.wrap (h - (1:Int))))=(some (.ptr i1 i2 i3)))∧(zb (⟨O,N,G⟩) (i1) (i2) (i3) (2)=(some [.str l1,s1]))∧(iX 75 sl h i4 i5 i6)∧(zb (⟨O,N,G⟩) (i4) (i5) (i6) (2)=(some [.str l2,s2]))∧(iX 75 sl h i7 i8 i9)∧((AV.agg [AV.str l1,s1]).cells.length.beq (2)=true∧zc (⟨O,N,G⟩:AHeap) i7 i8 i9 (AV.agg [AV.str l1,s1]).cells=some (⟨O1,N,G⟩:AHeap))∧(qW P (⟨O1,N,G⟩) (BinOp.sub) (3) (true) (.int .i64 h) (.int .i64 1)=(some (.int .i64 (IntKind.i64.wrap (h - (1:Int))))))∧(zf P (75) (sl) (.int .i64 (IntKind.i64.wrap (h - (1:Int))))=(some (.ptr i10 i11 i12)))∧((AV.agg [AV.str l2,s2]).cells.length.beq (2)=true∧zc (⟨O1,N,G⟩:AHeap) i10 i11 i12 (AV.agg [AV.str l2,s2]).cells=some (⟨O2,N,G⟩:AHeap))∧K (Wsyl sl a (IntKind.i64.wrap (h - (1:Int))) rest O2 N G)))∧((decide (h > a))=false→(K (AM.mk (RF 126 220 .leaf [.code (cd P (126:FuncId) [0,1,0,1,1,1,1]),.code (cd P (126:FuncId) [1,1])]) rest ⟨O,N,G⟩))))=OT f0 R keep K (.seq [.run 7] (.fork 110 (.ex fun i1:Nat=>(.ex fun i2:Nat=>(.ex fun i3:Nat=>(.ex fun l1:List UInt8=>(.ex fun s1:AV=>(.ex fun i4:Nat=>(.ex fun i5:Nat=>(.ex fun i6:Nat=>(.ex fun l2:List UInt8=>(.ex fun s2:AV=>(.ex fun i7:Nat=>(.ex fun i8:Nat=>(.ex fun i9:Nat=>(.ex fun O1:T AObj=>(.ex fun i10:Nat=>(.ex fun i11:Nat=>(.ex fun i12:Nat=>(.ex fun O2:T AObj=>(.seq [.run 13,.hopn (.ptr i1 i2 i3) O (N),.hop (.agg [.str l1,s1]) O,.run 2,.hopn (.ptr i4 i5 i6) O (N),.hop (.agg [.str l2,s2]) O,.hopn (.ptr i7 i8 i9) O (N),.hopn (.nilp) O1 (N),.hopn (.ptr i10 i11 i12) O1 (N),.hopn (.nilp) O2 (N),.run 8,.keep [0,14,17]] .fin))))))))))))))))))) (.seq [.run 3,.keep []] .fin))) ((Wsyl sl a h rest O N G)):=by kernel_rfl
theorem zsI:(((decide (a<b))=true→(∃ (i1:Nat) (i2:Nat) (i3:Nat) (l1:List UInt8) (s1:AV) (i4:Nat) (i5:Nat) (i6:Nat) (l2:List UInt8) (s2:AV),(zf P (75) (sl) (.int .i64 (IntKind.i64.wrap (p3 - IntKind.i64.wrap ((IntKind.u64.wrap (IntKind.i64.wrap (a+b))).fdiv ((2:Int) ^ min (Int.toNat (1:Int)) IntKind.u64.bits)))))=(some (.ptr i1 i2 i3)))∧(zb (⟨O,N,G⟩) (i1) (i2) (i3) (2)=(some [.str l1,s1]))∧(zf P (75) (sl) (.int .i64 (IntKind.i64.wrap ((IntKind.u64.wrap (IntKind.i64.wrap (a+b))).fdiv ((2:Int) ^ min (Int.toNat (1:Int)) IntKind.u64.bits))))=(some (.ptr i4 i5 i6)))∧(zb (⟨O,N,G⟩) (i4) (i5) (i6) (2)=(some [.str l2,s2]))∧K (AM.mk (enF 69 [.agg [.str l1,s1],.agg [.str l2,s2]]) ((zsm n j j2 sl nn i1 i2 i3 i4 i5 i6 s1 s2 l1 l2 a b h p3)::rest) ⟨O,N,G⟩)))∧((decide (a<b))=false→(((decide (a<j2))=true→(((decide (j2<IntKind.i64.wrap (nn - a)))=true→(K (AM.mk (enF 141 [sl,.int .i64 a,.int .i64 j2,.int .i64 (IntKind.i64.wrap (nn - a)),.fn (Fn.func (69:FuncId)) [] []]) ((zk0 n j j2 sl nn a h)::rest) ⟨O,N,G⟩)))∧((decide (j2<IntKind.i64.wrap (nn - a)))=false→(K (zqj n j sl a (IntKind.i64.wrap (nn - a)) h rest O N G)))))∧((decide (a<j2))=false→(K (zqj n j sl a (IntKind.i64.wrap (nn - a)) h rest O N G))))))=OT f0 R keep K (.seq [.run 7] (.fork 151 (.ex fun i1:Nat=>(.ex fun i2:Nat=>(.ex fun i3:Nat=>(.ex fun l1:List UInt8=>(.ex fun s1:AV=>(.ex fun i4:Nat=>(.ex fun i5:Nat=>(.ex fun i6:Nat=>(.ex fun l2:List UInt8=>(.ex fun s2:AV=>(.seq [.run 20,.hopn (.ptr i1 i2 i3) O (N),.hop (.agg [.str l1,s1]) O,.run 2,.hopn (.ptr i4 i5 i6) O (N),.hop (.agg [.str l2,s2]) O,.run 1] .fin))))))))))) (.seq [.run 16] (.fork 181 (.seq [.run 5] (.fork 185 (.seq [.run 7,.keep [0,1,3,4,18,20,24,186,187,188,189,190],.run 1] .fin) (.seq [.run 2,.keep [0,1,3,4,18,20,24]] .fin))) (.seq [.run 7,.keep [0,1,3,4,18,20,24]] .fin))))) ((zpY n j j2 sl nn a b h p3 rest O N G)):=by kernel_rfl
theorem zkj:((((!decide (crq0<(0:Int))))=true→(K (zpY n j j2 sl nn (IntKind.i64.wrap (IntKind.i64.wrap ((IntKind.u64.wrap (IntKind.i64.wrap (a+b))).fdiv ((2:Int) ^ min (Int.toNat (1:Int)) IntKind.u64.bits))+(1:Int))) b h p3 rest O N G)))∧(((!decide (crq0<(0:Int))))=false→(K (zpY n j j2 sl nn a (IntKind.i64.wrap ((IntKind.u64.wrap (IntKind.i64.wrap (a+b))).fdiv ((2:Int) ^ min (Int.toNat (1:Int)) IntKind.u64.bits))) h p3 rest O N G))))=OT f0 R keep K (.seq [.run 4] (.fork 171 (.seq [.run 8,.keep [0,1,2,3,4,18,19,20,21,22]] .fin) (.seq [.run 7,.keep [0,1,2,3,4,18,19,20,21,22]] .fin))) ((AM.mk (RF 69 10 (tX tZ (tX (tY (.int .i64 crq0)) tZ)) td) ((zsm n j j2 sl nn i1c i2c i3c i4c i5c i6c s1c s2c l1c l2c a b h p3)::rest) ⟨O,N,G⟩)):=by kernel_rfl
theorem zfX:(K (zqj n j sl a (IntKind.i64.wrap (nn - a)) h rest O N G))=OT f0 R keep K (.seq [.run 2,.keep [0,1,3,4,18,20,24]] .fin) ((AM.mk (RF 141 58 .leaf td) ((zk0 n j j2 sl nn a h)::rest) ⟨O,N,G⟩)):=by kernel_rfl
theorem t_syd:(((decide (j<a))=true→(((decide (a<h))=true→(K (AM.mk (enF 126 [sl,.int .i64 j,.int .i64 a,.int .i64 h,.fn (Fn.func (69:FuncId)) [] []]) ((zox n j sl a b h)::rest) ⟨O,N,G⟩)))∧((decide (a<h))=false→(K (zqh n sl b h rest O N G)))))∧((decide (j<a))=false→(K (zqh n sl b h rest O N G))))=OT f0 R keep K (.seq [.run 7] (.fork 195 (.seq [.run 5] (.fork 199 (.seq [.run 7,.keep [0,3,4,18,24,200,201,202,203,204],.run 1] .fin) (.seq [.run 2,.keep [0,3,4,18,24]] .fin))) (.seq [.run 7,.keep [0,3,4,18,24]] .fin))) ((zqj n j sl a b h rest O N G)):=by kernel_rfl
theorem ziU:(K (zqh n sl b h rest O N G))=OT f0 R keep K (.seq [.run 2,.keep [0,3,4,18,24]] .fin) ((AM.mk (RF 126 220 .leaf td) ((zox n j sl a b h)::rest) ⟨O,N,G⟩)):=by kernel_rfl
theorem t_sye:(((decide (h<b))=true→(((decide (b<n))=true→(K (AM.mk (enF 126 [sl,.int .i64 h,.int .i64 b,.int .i64 n,.fn (Fn.func (69:FuncId)) [] []]) ((zn8 n sl b h)::rest) ⟨O,N,G⟩)))∧((decide (b<n))=false→(K (AM.mk (RF 126 220 .leaf []) rest ⟨O,N,G⟩)))))∧((decide (h<b))=false→(K (AM.mk (RF 126 220 .leaf []) rest ⟨O,N,G⟩))))=OT f0 R keep K (.seq [.run 6] (.fork 209 (.seq [.run 5] (.fork 213 (.seq [.run 7,.keep [214,215,216,217,218],.run 1] .fin) (.seq [.run 3,.keep []] .fin))) (.seq [.run 8,.keep []] .fin))) ((zqh n sl b h rest O N G)):=by kernel_rfl
theorem zin:(K (AM.mk (RF 126 220 .leaf []) rest ⟨O,N,G⟩))=OT f0 R keep K (.seq [.run 3,.keep []] .fin) ((AM.mk (RF 126 220 .leaf td) ((zn8 n sl b h)::rest) ⟨O,N,G⟩)):=by kernel_rfl
end
variable {O O':T AObj} {N:Nat} {G:T (T AV)}
theorem zrT {lo hi a b:Nat}{s:AV}{xs:List TE}(h:Arr O lo hi s xs)(hN:hi≤N)(hab:a+1<b)(hb:b≤xs.length)(hx:xs.length<1000000)(r:Sor xs (a+1) b){keep:Nat}{f0:FuncId}{Q:AV→AHeap→Prop}{rest:List AFrame}
 (hK:(∀ O' N' ys td,Arr O' lo hi s ys→Chg s O N O' N'→Rg xs ys a b→Sor ys a b→Goal P keep f0 Q (AM.mk (RF 126 220 .leaf td) rest ⟨O',N',G⟩))):Goal P keep f0 Q (zqm ((a:Nat):Int) s ((a+1:Nat):Int) ((b:Nat):Int) rest O N G):=by
 have shift:∀ (i:Nat),a<i→i≤b→(∀ u,a<u→u<i→Op.bytesLess (Fx xs u).1 (Fx xs a).1=true)→(∀ u,i≤u→u<b→Op.bytesLess (Fx xs u).1 (Fx xs a).1=false)→∀ (c e:Nat) (O2:T AObj) (N2:Nat) (ys:List TE),e+c=i - 1→a≤e→Arr O2 lo hi s ys→Chg s O N O2 N2→ys.length=xs.length→(∀ k,Fx ys k=shl xs a e k)→Goal P keep f0 Q (Wsyk s ((i:Nat):Int) ((e:Nat):Int) rest O2 N2 G):=by
  intro i hai hib k1 k2 c
  induction c with
  | zero =>
   intro e O2 N2 ys he hae h2 c2 l2 f2
   have w2:IntKind.i64.wrap (((i:Nat):Int) - (1:Int))=((i - 1:Nat):Int):=by rw [IntKind.wrap_i64]; omega
   obtain rfl:e=i - 1:=by omega
   refine ot zro (fkf (decide_eq_false (by rw [w2]; omega)) (hK O2 N2 ys _ h2 c2 (zqE l2 (by omega) f2) (zp2 ⟨hai,hib⟩ f2 k1 k2 r)))
  | succ c ih =>
   intro e O2 N2 ys he hae h2 c2 l2 f2
   have w2:IntKind.i64.wrap (((i:Nat):Int) - (1:Int))=((i - 1:Nat):Int):=by rw [IntKind.wrap_i64]; omega
   have w1:IntKind.i64.wrap (((e:Nat):Int)+(1:Int))=((e+1:Nat):Int):=zq (by omega)
   obtain ⟨d1,d2,d3,g1,g2,g3,O4,O5,eD,lD,eG,lG,sG,sD,h5,c5⟩:=h2.swap (i:=e+1) (j:=e) (by omega) (by omega) N2 G
   rw [← w1] at eD
   refine ot zro (fkt (decide_eq_true (by rw [w2]; omega)) ?_)
   refine ⟨d1,d2,d3,_,_,g1,g2,g3,_,_,g1,g2,g3,O4,d1,d2,d3,O5,eD,lD,eG,lG,eG,(st2 sG),rfl,eD,(st2 sD),?_⟩
   rw [w1]
   exact ih (e+1) O5 N2 (swp ys (e+1) e) (by omega) (by omega) h5 (c2.trans c5) (by rw [zdA,l2]) (zmj l2 (by omega) f2)
 have find:∀ (c i j:Nat) (O2:T AObj) (N2:Nat),j - i≤c→a<i→i≤j→j≤b→(∀ u,a<u→u<i→Op.bytesLess (Fx xs u).1 (Fx xs a).1=true)→(∀ u,j≤u→u<b→Op.bytesLess (Fx xs u).1 (Fx xs a).1=false)→Arr O2 lo hi s xs→Chg s O N O2 N2→Goal P keep f0 Q (zqm ((a:Nat):Int) s ((i:Nat):Int) ((j:Nat):Int) rest O2 N2 G):=by
  intro c
  induction c with
  | zero =>
   intro i j O2 N2 hc hai hij hjb k1 k2 h2 c2
   obtain rfl:i=j:=by omega
   exact ot zpb (fkf (decide_eq_false (by omega)) (shift i hai hjb k1 k2 (i - 1 - a) a O2 N2 xs (by omega) (Nat.le_refl _) h2 c2 rfl (fun k=>zhp)))
  | succ c ih =>
   intro i j O2 N2 hc hai hij hjb k1 k2 h2 c2
   by_cases hlt:i<j
   ·have wh:=zdq (a:=i) (b:=j) (by omega)
    obtain ⟨d1,d2,d3,eD,lD⟩:=h2.elem (i:=(i+j) / 2) (by omega)
    obtain ⟨g1,g2,g3,eG,lG⟩:=h2.elem (i:=a) (by omega)
    rw [← wh] at eD
    have nn:=c2.1
    refine ot zpb (fkt (decide_eq_true (by omega)) ⟨d1,d2,d3,_,_,g1,g2,g3,_,_,eD,lD _ _,eG,lG _ _,?_⟩)
    refine zg2 fun O3 N3 z td hz ex3=>?_
    have h3:=h2.ext ex3 (by omega)
    have c3:=c2.trans (Chg.ext ex3)
    refine ot zjX ⟨fun hc=>?_,fun hc=>?_⟩
    ·have lt:=hz.1 (of_decide_eq_true hc)
     have w1:IntKind.i64.wrap ((((i+j) / 2:Nat):Int)+(1:Int))=(((i+j) / 2+1:Nat):Int):=zq (by omega)
     rw [wh,w1]
     exact ih ((i+j) / 2+1) j O3 N3 (by omega) (by omega) (by omega) hjb (fun u g1 g2=>by
      by_cases e:u=(i+j) / 2
      ·rw [e]; exact lt
      ·exact zsn (r u ((i+j) / 2) (by omega) (by omega) (by omega)) lt) k2 h3 c3
    ·have ge:Op.bytesLess (Fx xs ((i+j) / 2)).1 (Fx xs a).1=false:=by
      cases e:Op.bytesLess (Fx xs ((i+j) / 2)).1 (Fx xs a).1 with
      | false=>rfl
      | true=>have:=hz.2 e; have:=of_decide_eq_false hc; omega
     rw [wh]
     exact ih i ((i+j) / 2) O3 N3 (by omega) hai (by omega) (by omega) k1 (fun u g1 g2=>by
      by_cases e:u=(i+j) / 2
      ·rw [e]; exact ge
      ·exact le_trans ge (r ((i+j) / 2) u (by omega) (by omega) g2)) h3 c3
   ·obtain rfl:i=j:=by omega
    exact ot zpb (fkf (decide_eq_false (by omega)) (shift i hai hjb k1 k2 (i - 1 - a) a O2 N2 xs (by omega) (Nat.le_refl _) h2 c2 rfl (fun k=>zhp)))
 exact find _ (a+1) b O N (Nat.le_refl _) (Nat.lt_succ_self _) (by omega) (Nat.le_refl _) (fun u g1 g2=>by omega) (fun u g1 g2=>by omega) h Chg.refl
theorem zq1 {lo hi a m:Nat}{s:AV}{xs:List TE}(h:Arr O lo hi s xs)(hN:hi≤N)(ham:a<m)(hb:m+1≤xs.length)(hx:xs.length<1000000)(l:Sor xs a m){keep:Nat}{f0:FuncId}{Q:AV→AHeap→Prop}{rest:List AFrame}
 (hK:∀ O' N' ys td,Arr O' lo hi s ys→Chg s O N O' N'→Rg xs ys a (m+1)→Sor ys a (m+1)→Goal P keep f0 Q (AM.mk (RF 126 220 .leaf td) rest ⟨O',N',G⟩)):Goal P keep f0 Q (zqo ((m:Nat):Int) s ((a:Nat):Int) ((m:Nat):Int) rest O N G):=by
 have shift:∀ (i:Nat),a≤i→i≤m→(∀ u,a≤u→u<i→Op.bytesLess (Fx xs m).1 (Fx xs u).1=false)→(∀ u,i≤u→u<m→Op.bytesLess (Fx xs m).1 (Fx xs u).1=true)→∀ (c e:Nat) (O2:T AObj) (N2:Nat) (ys:List TE),e=i+c→e≤m→Arr O2 lo hi s ys→Chg s O N O2 N2→ys.length=xs.length→(∀ k,Fx ys k=shr xs e m k)→Goal P keep f0 Q (Wsyl s ((i:Nat):Int) ((e:Nat):Int) rest O2 N2 G):=by
  intro i hai him k1 k2 c
  induction c with
  | zero =>
   intro e O2 N2 ys he hem h2 c2 l2 f2
   obtain rfl:e=i:=by omega
   exact ot zrB (fkf (decide_eq_false (by omega)) (hK O2 N2 ys _ h2 c2 (zqY l2 ⟨hai,him⟩ f2) (zpz ⟨hai,him⟩ f2 k1 k2 l)))
  | succ c ih =>
   intro e O2 N2 ys he hem h2 c2 l2 f2
   have w1:IntKind.i64.wrap (((e:Nat):Int) - (1:Int))=((e - 1:Nat):Int):=by rw [IntKind.wrap_i64]; omega
   obtain ⟨d1,d2,d3,g1,g2,g3,O4,O5,eD,lD,eG,lG,sG,sD,h5,c5⟩:=h2.swap (i:=e - 1) (j:=e) (by omega) (by omega) N2 G
   rw [← w1] at eD
   refine ot zrB (fkt (decide_eq_true (by omega)) ?_)
   refine ⟨d1,d2,d3,_,_,g1,g2,g3,_,_,g1,g2,g3,O4,d1,d2,d3,O5,eD,lD,eG,lG,eG,(st2 sG),rfl,eD,(st2 sD),?_⟩
   rw [w1]
   exact ih (e - 1) O5 N2 (swp ys (e - 1) e) (by omega) (by omega) h5 (c2.trans c5) (by rw [zdA,l2]) (zmp l2 (by omega) f2)
 have find:∀ (c i j:Nat) (O2:T AObj) (N2:Nat),j - i≤c→a≤i→i≤j→j≤m→(∀ u,a≤u→u<i→Op.bytesLess (Fx xs m).1 (Fx xs u).1=false)→(∀ u,j≤u→u<m→Op.bytesLess (Fx xs m).1 (Fx xs u).1=true)→Arr O2 lo hi s xs→Chg s O N O2 N2→Goal P keep f0 Q (zqo ((m:Nat):Int) s ((i:Nat):Int) ((j:Nat):Int) rest O2 N2 G):=by
  intro c
  induction c with
  | zero =>
   intro i j O2 N2 hc hai hij hjm k1 k2 h2 c2
   obtain rfl:i=j:=by omega
   exact ot zqa (fkf (decide_eq_false (by omega)) (shift i hai hjm k1 k2 (m - i) m O2 N2 xs (by omega) (Nat.le_refl _) h2 c2 rfl (fun k=>zgZ)))
  | succ c ih =>
   intro i j O2 N2 hc hai hij hjm k1 k2 h2 c2
   by_cases hlt:i<j
   ·have wh:=zdq (a:=i) (b:=j) (by omega)
    obtain ⟨d1,d2,d3,eD,lD⟩:=h2.elem (i:=m) (by omega)
    obtain ⟨g1,g2,g3,eG,lG⟩:=h2.elem (i:=(i+j) / 2) (by omega)
    rw [← wh] at eG
    have nn:=c2.1
    refine ot zqa (fkt (decide_eq_true (by omega)) ⟨d1,d2,d3,_,_,g1,g2,g3,_,_,eD,lD _ _,eG,lG _ _,?_⟩)
    refine zg2 fun O3 N3 z td hz ex3=>?_
    have h3:=h2.ext ex3 (by omega)
    have c3:=c2.trans (Chg.ext ex3)
    refine ot zj3 ⟨fun hc=>?_,fun hc=>?_⟩
    ·have ge:Op.bytesLess (Fx xs m).1 (Fx xs ((i+j) / 2)).1=false:=by
      cases e:Op.bytesLess (Fx xs m).1 (Fx xs ((i+j) / 2)).1 with
      | false=>rfl
      | true =>
       rw [decide_eq_true (hz.2 e)] at hc
       cases hc
     have w1:IntKind.i64.wrap ((((i+j) / 2:Nat):Int)+(1:Int))=(((i+j) / 2+1:Nat):Int):=zq (by omega)
     rw [wh,w1]
     exact ih ((i+j) / 2+1) j O3 N3 (by omega) (by omega) (by omega) hjm (fun u g1 g2=>by
      by_cases e:u=(i+j) / 2
      ·rw [e]; exact ge
      ·exact le_trans (l u ((i+j) / 2) (by omega) (by omega) (by omega)) ge) k2 h3 c3
    ·have lt:Op.bytesLess (Fx xs m).1 (Fx xs ((i+j) / 2)).1=true:=hz.1 (by
      have:decide (z<0)=true:=by simpa using hc
      exact of_decide_eq_true this)
     rw [wh]
     exact ih i ((i+j) / 2) O3 N3 (by omega) hai (by omega) (by omega) k1 (fun u g1 g2=>by
      by_cases e:u=(i+j) / 2
      ·rw [e]; exact lt
      ·exact zrL lt (l ((i+j) / 2) u (by omega) (by omega) g2)) h3 c3
   ·obtain rfl:i=j:=by omega
    exact ot zqa (fkf (decide_eq_false (by omega)) (shift i hai hjm k1 k2 (m - i) m O2 N2 xs (by omega) (Nat.le_refl _) h2 c2 rfl (fun k=>zgZ)))
 exact find _ a m O N (Nat.le_refl _) (Nat.le_refl _) (by omega) (Nat.le_refl _) (fun u g1 g2=>by omega) (fun u g1 g2=>by omega) h Chg.refl
theorem zoV {lo hi:Nat}{s:AV}{keep:Nat}{f0:FuncId}{Q:AV→AHeap→Prop}:∀ (c a m b:Nat) (xs:List TE) (O:T AObj) (N:Nat) (rest:List AFrame),b - a≤c→a<m→m<b→b≤xs.length→xs.length<1000000→Arr O lo hi s xs→hi≤N→Sor xs a m→Sor xs m b →
 (∀ O' N' ys td,Arr O' lo hi s ys→Chg s O N O' N'→Rg xs ys a b→Sor ys a b→Goal P keep f0 Q (AM.mk (RF 126 220 .leaf td) rest ⟨O',N',G⟩))→Goal P keep f0 Q (AM.mk (enF 126 [s,.int .i64 ((a:Nat):Int),.int .i64 ((m:Nat):Int),.int .i64 ((b:Nat):Int),.fn (Fn.func 69) [] []]) rest ⟨O,N,G⟩):=by
 intro c
 induction c with
 | zero=>intro a m b xs O N rest h1 h2 h3; omega
 | succ c ih =>
  intro a m b xs O N rest hc ham hmb hb hx h hN l r hK
  have w1:IntKind.i64.wrap (((m:Nat):Int) - ((a:Nat):Int))=((m - a:Nat):Int):=by rw [IntKind.wrap_i64]; omega
  have w2:IntKind.i64.wrap (((b:Nat):Int) - ((m:Nat):Int))=((b - m:Nat):Int):=by rw [IntKind.wrap_i64]; omega
  have wh:=zdq (a:=a) (b:=b) (by omega)
  obtain ⟨q1,q2,q3,q4,q5,q6⟩:=zsc ham hmb
  have part3:∀ (O2:T AObj) (N2:Nat) (ys:List TE) (e:Nat),(a+b) / 2≤e→e≤b→Arr O2 lo hi s ys→Chg s O N O2 N2→ys.length=xs.length→Sor ys ((a+b) / 2) e→Sor ys e b→(∀ O3 N3 zs td,Arr O3 lo hi s zs→Chg s O N O3 N3→Rg ys zs ((a+b) / 2) b→Sor zs ((a+b) / 2) b→Goal P keep f0 Q (AM.mk (RF 126 220 .leaf td) rest ⟨O3,N3,G⟩))→Goal P keep f0 Q (zqh ((b:Nat):Int) s ((e:Nat):Int) (((a+b) / 2:Nat):Int) rest O2 N2 G):=by
   intro O2 N2 ys e h1 h2 hA cA lA u1 u2 hK2
   refine ot t_sye ⟨fun g1=>⟨fun g2=>?_,fun g2=>?_⟩,fun g1=>?_⟩
   ·have g1:=of_decide_eq_true g1
    have g2:=of_decide_eq_true g2
    refine ih ((a+b) / 2) e b ys O2 N2 _ (by omega) (by omega) (by omega) (by omega) (by omega) hA (Nat.le_trans hN cA.1) u1 u2 fun O3 N3 zs td h3 c3 r3 s3=>?_
    exact ot zin (hK2 O3 N3 zs _ h3 (cA.trans c3) r3 s3)
   ·have g2:=of_decide_eq_false g2
    obtain rfl:e=b:=by omega
    exact hK2 O2 N2 ys _ hA cA Rg.refl u1
   ·have g1:=of_decide_eq_false g1
    have e1:e=(a+b) / 2:=by omega
    rw [e1] at u2
    exact hK2 O2 N2 ys _ hA cA Rg.refl u2
  have part2:∀ (O2:T AObj) (N2:Nat) (ys:List TE) (i:Nat),s0 a m b≤i→i≤r0 a m b→Arr O2 lo hi s ys→Chg s O N O2 N2→Rg xs ys a b→Sor ys a i→Sor ys i ((a+b) / 2)→Sor ys ((a+b) / 2) ((a+b) / 2+m - i)→Sor ys ((a+b) / 2+m - i) b→(∀ u v,a≤u→u<(a+b) / 2→(a+b) / 2≤v→v<b→Op.bytesLess (Fx ys v).1 (Fx ys u).1=false)→Goal P keep f0 Q (zqj ((b:Nat):Int) ((a:Nat):Int) s ((i:Nat):Int) (((a+b) / 2+m - i:Nat):Int) (((a+b) / 2:Nat):Int) rest O2 N2 G):=by
   intro O2 N2 ys i h1 h2 hA cA rA u1 u2 u3 u4 u5
   have lA:=rA.1
   have fin:∀ (O3:T AObj) (N3:Nat) (zs:List TE),Arr O3 lo hi s zs→Chg s O N O3 N3→Rg ys zs a ((a+b) / 2)→Sor zs a ((a+b) / 2)→Goal P keep f0 Q (zqh ((b:Nat):Int) s (((a+b) / 2+m - i:Nat):Int) (((a+b) / 2:Nat):Int) rest O3 N3 G):=by
    intro O3 N3 zs h3 c3 r3 s3
    have same:∀ k,(a+b) / 2≤k→Fx zs k=Fx ys k:=fun k hk=>r3.2.1 k (.inr hk)
    refine part3 O3 N3 zs _ (by omega) (by omega) h3 c3 (r3.1.trans lA) (fun u v g1 g2 g3=>by rw [same v (by omega),same u g1]; exact u3 u v g1 g2 g3) (fun u v g1 g2 g3=>by rw [same v (by omega),same u (by omega)]; exact u4 u v g1 g2 g3) fun O4 N4 ws td h4 c4 r4 s4=>?_
    exact hK O4 N4 ws _ h4 c4 ((rA.trans (r3.mono (Nat.le_refl _) (by omega))).trans (r4.mono (by omega) (Nat.le_refl _))) (zpU (by omega) (by omega) u5 r3 s3 r4 s4)
   refine ot t_syd ⟨fun g1=>⟨fun g2=>?_,fun g2=>?_⟩,fun g1=>?_⟩
   ·have g1:=of_decide_eq_true g1
    have g2:=of_decide_eq_true g2
    refine ih a i ((a+b) / 2) ys O2 N2 _ (by omega) (by omega) (by omega) (by omega) (by omega) hA (Nat.le_trans hN cA.1) u1 u2 fun O3 N3 zs td h3 c3 r3 s3=>?_
    exact ot ziU (fin O3 N3 zs h3 (cA.trans c3) r3 s3)
   ·have g2:=of_decide_eq_false g2
    have e1:i=(a+b) / 2:=by omega
    rw [e1] at u1
    exact fin O2 N2 ys hA cA Rg.refl u1
   ·have g1:=of_decide_eq_false g1
    have e1:i=a:=by omega
    rw [e1] at u2
    exact fin O2 N2 ys hA cA Rg.refl u2
  have find:∀ (c i j:Nat) (O2:T AObj) (N2:Nat),j - i≤c→s0 a m b≤i→i≤j→j≤r0 a m b→(∀ u,s0 a m b≤u→u<i→Op.bytesLess (Fx xs ((a+b) / 2+m - 1 - u)).1 (Fx xs u).1=false)→(∀ u,j≤u→u<r0 a m b→Op.bytesLess (Fx xs ((a+b) / 2+m - 1 - u)).1 (Fx xs u).1=true)→Arr O2 lo hi s xs→Chg s O N O2 N2→Goal P keep f0 Q (zpY ((b:Nat):Int) ((a:Nat):Int) ((m:Nat):Int) s (((a+b) / 2+m:Nat):Int) ((i:Nat):Int) ((j:Nat):Int) (((a+b) / 2:Nat):Int) (((a+b) / 2+m - 1:Nat):Int) rest O2 N2 G):=by
   have out:∀ (i:Nat) (O2:T AObj) (N2:Nat),s0 a m b≤i→i≤r0 a m b→(∀ u,s0 a m b≤u→u<i→Op.bytesLess (Fx xs ((a+b) / 2+m - 1 - u)).1 (Fx xs u).1=false)→(∀ u,i≤u→u<r0 a m b→Op.bytesLess (Fx xs ((a+b) / 2+m - 1 - u)).1 (Fx xs u).1=true)→Arr O2 lo hi s xs→Chg s O N O2 N2→Goal P keep f0 Q (zpY ((b:Nat):Int) ((a:Nat):Int) ((m:Nat):Int) s (((a+b) / 2+m:Nat):Int) ((i:Nat):Int) ((i:Nat):Int) (((a+b) / 2:Nat):Int) (((a+b) / 2+m - 1:Nat):Int) rest O2 N2 G):=by
    intro i O2 N2 h1 h2 k1 k2 hA cA
    have w3:IntKind.i64.wrap ((((a+b) / 2+m:Nat):Int) - ((i:Nat):Int))=(((a+b) / 2+m - i:Nat):Int):=by rw [IntKind.wrap_i64]; omega
    have go:∀ (O3:T AObj) (ys:List TE),Arr O3 lo hi s ys→Chg s O N O3 N2→ys.length=xs.length→(∀ k,Fx ys k=zam (Fx xs) i m ((a+b) / 2+m - i) k)→Goal P keep f0 Q (zqj ((b:Nat):Int) ((a:Nat):Int) s ((i:Nat):Int) (((a+b) / 2+m - i:Nat):Int) (((a+b) / 2:Nat):Int) rest O3 N2 G):=by
     intro O3 ys h3 c3 l3 f3
     obtain ⟨u1,u2,u3,u4,u5⟩:=zne ham hmb ⟨h1,h2⟩ f3 k1 k2 l r
     exact part2 O3 N2 ys i h1 h2 h3 c3 (zrZ l3 (by omega) (by omega) (by omega) (by omega) f3) u1 u2 u3 u4 u5
    refine ot zsI (fkf (decide_eq_false (by omega)) ⟨fun g1=>⟨fun g2=>?_,fun g2=>?_⟩,fun g1=>?_⟩)
    ·have g1:=of_decide_eq_true g1
     have g2:=of_decide_eq_true g2
     rw [w3] at g2 ⊢
     refine zsE hA (by omega) (by omega) (by omega) hx fun O3 ys h3 c3 l3 f3=>?_
     refine ot zfX ?_
     rw [w3]
     exact go O3 ys h3 (cA.trans c3) l3 f3
    ·have g2:=of_decide_eq_false g2
     rw [w3] at g2 ⊢
     exact go O2 xs hA cA rfl (fun k=>zoO (.inr (by omega)) (by omega) (by omega))
    ·have g1:=of_decide_eq_false g1
     rw [w3]
     exact go O2 xs hA cA rfl (fun k=>zoO (.inl (by omega)) (by omega) (by omega))
   intro c
   induction c with
   | zero =>
    intro i j O2 N2 hc h1 hij h2 k1 k2 hA cA
    obtain rfl:i=j:=by omega
    exact out i O2 N2 h1 h2 k1 k2 hA cA
   | succ c ihf =>
    intro i j O2 N2 hc h1 hij h2 k1 k2 hA cA
    by_cases hlt:i<j
    ·have whc:=zdq (a:=i) (b:=j) (by omega)
     have w4:IntKind.i64.wrap ((((a+b) / 2+m - 1:Nat):Int) - (((i+j) / 2:Nat):Int))=(((a+b) / 2+m - 1 - (i+j) / 2:Nat):Int):=by rw [IntKind.wrap_i64]; omega
     obtain ⟨d1,d2,d3,eD,lD⟩:=hA.elem (i:=(a+b) / 2+m - 1 - (i+j) / 2) (by omega)
     obtain ⟨g1,g2,g3,eG,lG⟩:=hA.elem (i:=(i+j) / 2) (by omega)
     rw [← w4,← whc] at eD
     rw [← whc] at eG
     have nn:=cA.1
     refine ot zsI (fkt (decide_eq_true (by omega)) ⟨d1,d2,d3,_,_,g1,g2,g3,_,_,eD,lD _ _,eG,lG _ _,?_⟩)
     refine zg2 fun O3 N3 z td hz ex3=>?_
     have h3:=hA.ext ex3 (by omega)
     have c3:=cA.trans (Chg.ext ex3)
     refine ot zkj ⟨fun hc=>?_,fun hc=>?_⟩
     ·have ge:Op.bytesLess (Fx xs ((a+b) / 2+m - 1 - (i+j) / 2)).1 (Fx xs ((i+j) / 2)).1=false:=by
       cases e:Op.bytesLess (Fx xs ((a+b) / 2+m - 1 - (i+j) / 2)).1 (Fx xs ((i+j) / 2)).1 with
       | false=>rfl
       | true =>
        rw [decide_eq_true (hz.2 e)] at hc
        cases hc
      have w1:IntKind.i64.wrap ((((i+j) / 2:Nat):Int)+(1:Int))=(((i+j) / 2+1:Nat):Int):=zq (by omega)
      rw [whc,w1]
      exact ihf ((i+j) / 2+1) j O3 N3 (by omega) (by omega) (by omega) h2 (fun u g1 g2=>by
       by_cases e:u=(i+j) / 2
       ·rw [e]; exact ge
       ·exact le_trans (le_trans (l u ((i+j) / 2) (by omega) (by omega) (by omega)) ge) (r _ _ (by omega) (by omega) (by omega))) k2 h3 c3
     ·have lt:Op.bytesLess (Fx xs ((a+b) / 2+m - 1 - (i+j) / 2)).1 (Fx xs ((i+j) / 2)).1=true:=hz.1 (by
       have:decide (z<0)=true:=by simpa using hc
       exact of_decide_eq_true this)
      rw [whc]
      exact ihf i ((i+j) / 2) O3 N3 (by omega) h1 (by omega) (by omega) k1 (fun u g1 g2=>by
       by_cases e:u=(i+j) / 2
       ·rw [e]; exact lt
       ·exact zrL (zsn (r ((a+b) / 2+m - 1 - u) ((a+b) / 2+m - 1 - (i+j) / 2) (by omega) (by omega) (by omega)) lt) (l ((i+j) / 2) u (by omega) (by omega) (by omega))) h3 c3
    ·obtain rfl:i=j:=by omega
     exact out i O2 N2 h1 h2 k1 k2 hA cA
  refine ot t_sym ⟨fun g1=>?_,fun g1=>⟨fun g2=>?_,fun g2=>⟨fun g3=>?_,fun g3=>?_⟩⟩⟩
  ·obtain rfl:m=a+1:=by
    rw [w1] at g1
    have:=eq_of_beq g1
    omega
   exact zrT h hN hmb hb hx r hK
  ·obtain rfl:b=m+1:=by
    rw [w2] at g2
    have:=eq_of_beq g2
    omega
   exact zq1 h hN ham hb hx l hK
  ·have g3:=of_decide_eq_true g3
   rw [wh] at g3
   have e1:s0 a m b=(a+b) / 2+m - b:=by unfold s0; rw [if_pos (by omega)]
   have e2:r0 a m b=(a+b) / 2:=by unfold r0; rw [if_pos (by omega)]
   have w3:IntKind.i64.wrap ((((a+b) / 2:Nat):Int)+((m:Nat):Int))=(((a+b) / 2+m:Nat):Int):=by rw [IntKind.wrap_i64]; omega
   have w4:IntKind.i64.wrap ((((a+b) / 2+m:Nat):Int) - ((b:Nat):Int))=(((a+b) / 2+m - b:Nat):Int):=by rw [IntKind.wrap_i64]; omega
   have w5:IntKind.i64.wrap ((((a+b) / 2+m:Nat):Int) - (1:Int))=(((a+b) / 2+m - 1:Nat):Int):=by rw [IntKind.wrap_i64]; omega
   rw [wh,w3,w4,w5]
   exact find _ ((a+b) / 2+m - b) ((a+b) / 2) O N (Nat.le_refl _) (by omega) (by omega) (by omega) (fun u k1 k2=>by omega) (fun u k1 k2=>by omega) h Chg.refl
  ·have g3:=of_decide_eq_false g3
   rw [wh] at g3
   have e1:s0 a m b=a:=by unfold s0; rw [if_neg (by omega)]
   have e2:r0 a m b=m:=by unfold r0; rw [if_neg (by omega)]
   have w3:IntKind.i64.wrap ((((a+b) / 2:Nat):Int)+((m:Nat):Int))=(((a+b) / 2+m:Nat):Int):=by rw [IntKind.wrap_i64]; omega
   have w5:IntKind.i64.wrap ((((a+b) / 2+m:Nat):Int) - (1:Int))=(((a+b) / 2+m - 1:Nat):Int):=by rw [IntKind.wrap_i64]; omega
   rw [wh,w3,w5]
   exact find _ a m O N (Nat.le_refl _) (by omega) (by omega) (by omega) (fun u k1 k2=>by omega) (fun u k1 k2=>by omega) h Chg.refl
end Go.Proofs.Ytcdigdplhlgcaaa.gx
end
section
set_option maxRecDepth 100000
set_option linter.unusedVariables false
set_option linter.unusedSectionVars false
set_option linter.unusedSimpArgs false
namespace Go.Proofs.Ytcdigdplhlgcaaa.gx
open Go Ev tp
section
variable (n:Int) (sl:AV) (a b h:Int) (rest:List AFrame) (O:T AObj) (N:Nat) (G:T (T AV)) (z1:Int)
noncomputable def Wxsa:AM:=⟨⟨107,63,(tW (tW (tX (tY (.int .i64 a)) tZ) (.int .i64 n) tZ) sl (tW (tX (tY (.int .i64 b)) tZ) (.fn (Fn.func (69:FuncId)) [] []) (tY (.int .i64 h)))),   [.code (cd P 107 [1,1,0,0,0]),.inLoop (cd P 107 [1,1,0,0,0]),.inBlock 0,.code (cd P 107 [1,1,1])],[],.run,CallKind.normal,none⟩,rest,⟨O,N,G⟩⟩
noncomputable def zr8:AFrame:=⟨107,63,(tW (tW (tX (tX (tY (.int .i64 a)) tZ) tZ) (.int .i64 n) (tX (tX (tY (.fn (Fn.func (69:FuncId)) [] [])) tZ) tZ)) sl (tW (tX (tW (tY (.int .i64 b)) (.int .i64 b) tZ) tZ) (.fn (Fn.func (69:FuncId)) [] []) (tW tZ (.int .i64 h) (tY sl)))),   [.ops (rg P 107 [1,1,0,0,0,1,0,0]).toList ((rg P 107 [1,1,0,0,0,1,0,0]).toList.drop 4),.code (cd P 107 [1,1,0,0,0,1,0,1]),.inBlock 1,.inLoop (cd P (107:FuncId) [1,1,0,0,0]),.inBlock 0,.code (cd P (107:FuncId) [1,1,1])],[],.run,CallKind.normal,none⟩
noncomputable def zq9:AFrame:=⟨107,63,(tW (tW (tX (tX tZ (tY sl)) tZ) (.int .i64 n) (tX (tX tZ (tY (.int .i64 n))) tZ)) sl (tW (tX (tX tZ (tY (.int .i64 a))) tZ) (.fn (Fn.func (69:FuncId)) [] []) (tW (tX tZ (tY (.fn (Fn.func (69:FuncId)) [] []))) (.int .i64 h) tZ))),   [.ops (rg P 107 [1,1,1,0]).toList ((rg P 107 [1,1,1,0]).toList.drop 4),.code (cd P 107 [1,1,1,1])],[],.run,CallKind.normal,none⟩
noncomputable def zr1:AM:=⟨⟨107,63,(tW (tY (.int .i64 n)) sl (tW tZ (.fn (Fn.func (69:FuncId)) [] []) (tY (.int .i64 h)))),   [.code (cd P 107 [1,1,1,1,0,0]),.inLoop (cd P 107 [1,1,1,1,0,0]),.inBlock 2],[],.run,CallKind.normal,none⟩,rest,⟨O,N,G⟩⟩
noncomputable def Wxsc:AM:=⟨⟨107,63,(tW (tW (tX (tY (.int .i64 a)) tZ) (.int .i64 n) tZ) sl (tW (tX (tY (.int .i64 b)) tZ) (.fn (Fn.func (69:FuncId)) [] []) (tY (.int .i64 h)))),   [.code (cd P 107 [1,1,1,1,0,0,1,0,1,0,0,0]),.inLoop (cd P 107 [1,1,1,1,0,0,1,0,1,0,0,0]),.inBlock 4,.code (cd P 107 [1,1,1,1,0,0,1,0,1,1]),.inBlock 3,.inLoop (cd P (107:FuncId) [1,1,1,1,0,0]),.inBlock 2],[],.run,CallKind.normal,none⟩,rest,⟨O,N,G⟩⟩
noncomputable def zqv:AFrame:=⟨107,63,(tW (tW tZ (.int .i64 n) (tX (tX tZ (tX (tY (.int .i64 b)) tZ)) (tX (tX (tY (.int .i64 a)) tZ) tZ))) sl (tW (tX (tW tZ (.int .i64 b) (tX (tY (.int .i64 (IntKind.i64.wrap (a+h)))) tZ)) (tX (tX (tY sl) tZ) tZ)) (.fn (Fn.func (69:FuncId)) [] []) (tW (tX tZ (tX (tY (.fn (Fn.func (69:FuncId)) [] [])) tZ)) (.int .i64 h) tZ))),   [.ops (rg P 107 [1,1,1,1,0,0,1,0,1,0,0,0,1,0,0]).toList ((rg P 107 [1,1,1,1,0,0,1,0,1,0,0,0,1,0,0]).toList.drop 7),.code (cd P 107 [1,1,1,1,0,0,1,0,1,0,0,0,1,0,1]),.inBlock 5,.inLoop (cd P (107:FuncId) [1,1,1,1,0,0,1,0,1,0,0,0]),.inBlock 4,.code (cd P (107:FuncId) [1,1,1,1,0,0,1,0,1,1]),.inBlock 3,.inLoop (cd P (107:FuncId) [1,1,1,1,0,0]),.inBlock 2],[],.run,CallKind.normal,none⟩
noncomputable def zoD:AFrame:=⟨107,63,(tW (tW (tX (tX tZ (tX tZ (tY sl))) (tX tZ (tX tZ (tY (.fn (Fn.func (69:FuncId)) [] []))))) (.int .i64 n) (tX (tX tZ (tX tZ (tY (.int .i64 (IntKind.i64.wrap (a+h)))))) tZ)) sl (tW (tX (tX tZ (tX tZ (tY (.int .i64 a)))) tZ) (.fn (Fn.func (69:FuncId)) [] []) (tW (tX tZ (tX tZ (tY (.int .i64 n)))) (.int .i64 h) tZ))),   [.ops (rg P 107 [1,1,1,1,0,0,1,0,1,1,0,1,1,0]).toList ((rg P 107 [1,1,1,1,0,0,1,0,1,1,0,1,1,0]).toList.drop 5),.code (cd P 107 [1,1,1,1,0,0,1,0,1,1,1]),.inBlock 3,.inLoop (cd P (107:FuncId) [1,1,1,1,0,0]),.inBlock 2],[],.run,CallKind.normal,none⟩
noncomputable def Fssf:AFrame:=⟨68,9,(tX (tX (tX (tY (.fn (Fn.func (69:FuncId)) [] [])) tZ) tZ) (tX (tY sl) (tY (.int .i64 z1)))),   [.ops (rg P 68 []).toList ((rg P 68 []).toList.drop 4)],[],.run,CallKind.normal,none⟩
end
section
variable {R:AV→AHeap→Prop} {keep N:Nat} {f0:FuncId} {rest:List AFrame} {O:T AObj} {n a b h z1c:Int} {sl:AV} {G:T (T AV)} {K:AM→Prop} {td:List AItem}
theorem t_sbi:(K (Wxsa n sl 0 20 20 rest O N G))=OT f0 R keep K (.seq [.run 13,.keep [0,1,2,6,7,8]] .fin) ((AM.mk (enF 107 [sl,.int .i64 n,.fn (Fn.func 69) [] []]) rest ⟨O,N,G⟩)):=by kernel_rfl
theorem zpN:(((decide (b≤n))=true→(K (AM.mk (enF 125 [sl,.int .i64 a,.int .i64 b,.fn (Fn.func (69:FuncId)) [] []]) ((zr8 n sl a b h)::rest) ⟨O,N,G⟩)))∧((decide (b≤n))=false→(K (AM.mk (enF 125 [sl,.int .i64 a,.int .i64 n,.fn (Fn.func (69:FuncId)) [] []]) ((zq9 n sl a h)::rest) ⟨O,N,G⟩))))=OT f0 R keep K (.seq [.run 7] (.fork 13 (.seq [.run 9,.keep [0,1,2,6,8,14,15,16,17],.run 1] .fin) (.seq [.run 8,.keep [0,1,2,6,23,24,25,26],.run 1] .fin))) ((Wxsa n sl a b h rest O N G)):=by kernel_rfl
theorem zlH:(K (Wxsa n sl b (IntKind.i64.wrap (b+h)) h rest O N G))=OT f0 R keep K (.seq [.run 15,.keep [0,1,2,6,7,8]] .fin) ((AM.mk (RF 125 53 .leaf td) ((zr8 n sl a b h)::rest) ⟨O,N,G⟩)):=by kernel_rfl
theorem zeS:(K (zr1 n sl h rest O N G))=OT f0 R keep K (.seq [.run 4,.keep [0,1,2,6]] .fin) ((AM.mk (RF 125 53 .leaf td) ((zq9 n sl a h)::rest) ⟨O,N,G⟩)):=by kernel_rfl
theorem zoW:(((decide (h<n))=true→(K (Wxsc n sl 0 (IntKind.i64.wrap ((2:Int)*h)) h rest O N G)))∧((decide (h<n))=false→(K (AM.mk (RF 107 63 .leaf []) rest ⟨O,N,G⟩))))=OT f0 R keep K (.seq [.run 7] (.fork 30 (.seq [.run 13,.keep [0,1,2,6,7,8]] .fin) (.seq [.run 3,.keep []] .fin))) ((zr1 n sl h rest O N G)):=by kernel_rfl
theorem zm4:(((decide (b≤n))=true→(K (AM.mk (enF 126 [sl,.int .i64 a,.int .i64 (IntKind.i64.wrap (a+h)),.int .i64 b,.fn (Fn.func (69:FuncId)) [] []]) ((zqv n sl a b h)::rest) ⟨O,N,G⟩)))∧((decide (b≤n))=false→(((decide (IntKind.i64.wrap (a+h)<n))=true→(K (AM.mk (enF 126 [sl,.int .i64 a,.int .i64 (IntKind.i64.wrap (a+h)),.int .i64 n,.fn (Fn.func (69:FuncId)) [] []]) ((zoD n sl a h)::rest) ⟨O,N,G⟩)))∧((decide (IntKind.i64.wrap (a+h)<n))=false→(K (zr1 n sl (IntKind.i64.wrap (h*(2:Int))) rest O N G))))))=OT f0 R keep K (.seq [.run 7] (.fork 35 (.seq [.run 12,.keep [0,1,2,6,8,36,37,40,41,42],.run 1] .fin) (.seq [.run 16] (.fork 54 (.seq [.run 7,.keep [0,1,2,6,55,56,57,58,59],.run 1] .fin) (.seq [.run 9,.keep [0,1,2,6]] .fin))))) ((Wxsc n sl a b h rest O N G)):=by kernel_rfl
theorem zj6:(K (Wxsc n sl b (IntKind.i64.wrap (b+IntKind.i64.wrap ((2:Int)*h))) h rest O N G))=OT f0 R keep K (.seq [.run 16,.keep [0,1,2,6,7,8]] .fin) ((AM.mk (RF 126 220 .leaf td) ((zqv n sl a b h)::rest) ⟨O,N,G⟩)):=by kernel_rfl
theorem ziJ:(K (zr1 n sl (IntKind.i64.wrap (h*(2:Int))) rest O N G))=OT f0 R keep K (.seq [.run 9,.keep [0,1,2,6]] .fin) ((AM.mk (RF 126 220 .leaf td) ((zoD n sl a h)::rest) ⟨O,N,G⟩)):=by kernel_rfl
theorem t_ssf:(∃ (z1:Int),(lN O N G 75 sl z1)∧K (AM.mk (enF 107 [sl,.int .i64 z1,.fn (Fn.func (69:FuncId)) [] []]) ((Fssf sl z1)::rest) ⟨O,N,G⟩))=OT f0 R keep K (.ex fun z1:Int=>(.seq [.run 3,.hopn (.int .i64 z1) O (N),.run 1,.keep [4,6,7],.run 1] .fin)) ((AM.mk (enF 68 [sl,.fn (Fn.func 69) [] []]) rest ⟨O,N,G⟩)):=by kernel_rfl
theorem znb:(K (AM.mk (RF 68 9 .leaf []) rest ⟨O,N,G⟩))=OT f0 R keep K (.seq [.run 3,.keep []] .fin) ((AM.mk (RF 107 63 .leaf td) ((Fssf sl z1c)::rest) ⟨O,N,G⟩)):=by kernel_rfl
end
variable {O O':T AObj} {N:Nat} {G:T (T AV)}
theorem Sor.same {xs ys:List TE}{a b:Nat}(h:Sor xs a b)(e:∀ k,a≤k→k<b→Fx ys k=Fx xs k):Sor ys a b:=fun u v g1 g2 g3=>by
 rw [e v (by omega) g3,e u g1 (by omega)]
 exact h u v g1 g2 g3
inductive Fr (ys:List TE) (h:Nat):Nat→Prop
 | zero:Fr ys h 0
 | snoc {a:Nat}:Fr ys h a→Sor ys a (a+h)→Fr ys h (a+h)
inductive Bl (ys:List TE) (h n:Nat):Nat→Prop
 | done {a:Nat}:n≤a→Bl ys h n a
 | one {a:Nat}:a<n→Sor ys a (min (a+h) n)→Bl ys h n (a+h)→Bl ys h n a
theorem Fr.same {xs ys:List TE}{h a:Nat}(f:Fr xs h a)(e:∀ k,k<a→Fx ys k=Fx xs k):Fr ys h a:=by
 induction f with
 | zero=>exact .zero
 | snoc f s ih=>exact .snoc (ih fun k hk=>e k (by omega)) (s.same fun k g1 g2=>e k g2)
theorem Bl.same {xs ys:List TE}{h n a:Nat}(f:Bl xs h n a)(e:∀ k,a≤k→k<n→Fx ys k=Fx xs k):Bl ys h n a:=by
 induction f with
 | done g=>exact .done g
 | one g s _ ih=>exact .one g (s.same fun k g1 g2=>e k g1 (by omega)) (ih fun k g1 g2=>e k (by omega) g2)
theorem Fr.bl {ys:List TE}{h n a:Nat}(f:Fr ys h a)(hh:0<h)(ha:a≤n)(b:Bl ys h n a):Bl ys h n 0:=by
 induction f with
 | zero=>exact b
 | snoc f s ih=>exact ih (by omega) (.one (by omega) (by rw [Nat.min_eq_left ha]; exact s) b)
theorem zso {lo hi:Nat}{s:AV}{xs:List TE}(h:Arr O lo hi s xs)(hN:hi≤N)(hx:xs.length<1000000){keep:Nat}{f0:FuncId}{Q:AV→AHeap→Prop}{rest:List AFrame}
 (hK:∀ O' N' ys td,Arr O' lo hi s ys→Chg s O N O' N'→Rg xs ys 0 xs.length→Sor ys 0 xs.length→Goal P keep f0 Q (AM.mk (RF 107 63 .leaf td) rest ⟨O',N',G⟩)):Goal P keep f0 Q (AM.mk (enF 107 [s,.int .i64 ((xs.length:Nat):Int),.fn (Fn.func 69) [] []]) rest ⟨O,N,G⟩):=by
 have second:∀ (c h:Nat) (O2:T AObj) (N2:Nat) (ys:List TE),xs.length - h≤c→0<h→h<2*xs.length+40→Arr O2 lo hi s ys→Chg s O N O2 N2→Rg xs ys 0 xs.length→Bl ys h xs.length 0→Goal P keep f0 Q (zr1 ((xs.length:Nat):Int) s ((h:Nat):Int) rest O2 N2 G):=by
  intro c
  induction c with
  | zero =>
   intro h O2 N2 ys hc hh hl hA cA rA bA
   refine ot zoW (fkf (decide_eq_false (by omega)) (hK O2 N2 ys _ hA cA rA ?_))
   cases bA with
   | done g=>intro u v g1 g2 g3; omega
   | one g s1 _=>rw [Nat.zero_add,Nat.min_eq_right (by omega)] at s1; exact s1
  | succ c ih =>
   intro h O2 N2 ys hc hh hl hA cA rA bA
   by_cases hlt:h<xs.length
   ·have w1:IntKind.i64.wrap ((2:Int)*((h:Nat):Int))=((2*h:Nat):Int):=by rw [IntKind.wrap_i64]; omega
    have w2:IntKind.i64.wrap (((h:Nat):Int)*(2:Int))=((h+h:Nat):Int):=by rw [IntKind.wrap_i64]; omega
    refine ot zoW (fkt (decide_eq_true (by omega)) ?_)
    rw [w1]
    have inner:∀ (c2 a:Nat) (O3:T AObj) (N3:Nat) (zs:List TE),xs.length - a≤c2→a≤xs.length→Arr O3 lo hi s zs→Chg s O N O3 N3→Rg xs zs 0 xs.length→Fr zs (h+h) a→Bl zs h xs.length a→Goal P keep f0 Q (Wxsc ((xs.length:Nat):Int) s ((a:Nat):Int) ((a+2*h:Nat):Int) ((h:Nat):Int) rest O3 N3 G):=by
     intro c2
     induction c2 with
     | zero =>
      intro a O3 N3 zs hc2 hal h3 c3 r3 f3 b3
      have w3:IntKind.i64.wrap (((a:Nat):Int)+((h:Nat):Int))=((a+h:Nat):Int):=by rw [IntKind.wrap_i64]; omega
      refine ot zm4 (fkf (decide_eq_false (by omega)) (fkf (decide_eq_false (by rw [w3]; omega)) ?_))
      rw [w2]
      exact ih (h+h) O3 N3 zs (by omega) (by omega) (by omega) h3 c3 r3 (f3.bl (by omega) hal (.done (by omega)))
     | succ c2 ih2 =>
      intro a O3 N3 zs hc2 hal h3 c3 r3 f3 b3
      have l3:=r3.1
      have w3:IntKind.i64.wrap (((a:Nat):Int)+((h:Nat):Int))=((a+h:Nat):Int):=by rw [IntKind.wrap_i64]; omega
      by_cases hb:a+2*h≤xs.length
      ·refine ot zm4 (fkt (decide_eq_true (by omega)) ?_)
       rw [w3]
       cases b3 with
       | done g=>omega
       | one g s1 b4 =>
        cases b4 with
        | done g=>omega
        | one g2 s2 b5 =>
         rw [Nat.min_eq_left (by omega)] at s1 s2
         refine zoV _ a (a+h) (a+2*h) zs O3 N3 _ (Nat.le_refl _) (by omega) (by omega) (by omega) (by omega) h3 (Nat.le_trans hN c3.1) s1 (by rw [show a+2*h=a+h+h by omega]; exact s2) fun O4 N4 ws td h4 c4 r4 s4=>?_
         refine ot zj6 ?_
         have w4:IntKind.i64.wrap (((a+2*h:Nat):Int)+((2*h:Nat):Int))=((a+2*h+2*h:Nat):Int):=by rw [IntKind.wrap_i64]; omega
         rw [w1,w4]
         have f4:Fr ws (h+h) (a+(h+h)):=(f3.same fun k hk=>r4.2.1 k (.inl hk)).snoc (by rw [show a+(h+h)=a+2*h by omega]; exact s4)
         refine ih2 (a+2*h) O4 N4 ws (by omega) hb h4 (c3.trans c4) (r3.trans (r4.mono (Nat.zero_le _) hb)) (by rw [show a+2*h=a+(h+h) by omega]; exact f4) ?_
         rw [show a+2*h=a+h+h by omega]
         exact b5.same fun k g1 g2=>r4.2.1 k (.inr (by omega))
      ·by_cases hm:a+h<xs.length
       ·refine ot zm4 (fkf (decide_eq_false (by omega)) (fkt (decide_eq_true (by rw [w3]; omega)) ?_))
        rw [w3]
        cases b3 with
        | done g=>omega
        | one g s1 b4 =>
         cases b4 with
         | done g=>omega
         | one g2 s2 b5 =>
          rw [Nat.min_eq_left (by omega)] at s1
          rw [Nat.min_eq_right (by omega)] at s2
          refine zoV _ a (a+h) xs.length zs O3 N3 _ (Nat.le_refl _) (by omega) (by omega) (by omega) (by omega) h3 (Nat.le_trans hN c3.1) s1 s2 fun O4 N4 ws td h4 c4 r4 s4=>?_
          refine ot ziJ ?_
          rw [w2]
          exact ih (h+h) O4 N4 ws (by omega) (by omega) (by omega) h4 (c3.trans c4) (r3.trans (r4.mono (Nat.zero_le _) (Nat.le_refl _))) ((f3.same fun k hk=>r4.2.1 k (.inl hk)).bl (by omega) hal (.one g (by rw [Nat.min_eq_right (by omega)]; exact s4) (.done (by omega))))
       ·refine ot zm4 (fkf (decide_eq_false (by omega)) (fkf (decide_eq_false (by rw [w3]; omega)) ?_))
        rw [w2]
        refine ih (h+h) O3 N3 zs (by omega) (by omega) (by omega) h3 c3 r3 (f3.bl (by omega) hal ?_)
        cases b3 with
        | done g=>exact .done g
        | one g s1 b4 =>
         rw [Nat.min_eq_right (by omega)] at s1
         exact .one g (by rw [Nat.min_eq_right (by omega)]; exact s1) (.done (by omega))
    have:=inner _ 0 O2 N2 ys (Nat.le_refl _) (Nat.zero_le _) hA cA rA .zero bA
    rw [Nat.zero_add] at this
    exact this
   ·refine ot zoW (fkf (decide_eq_false (by omega)) (hK O2 N2 ys _ hA cA rA ?_))
    cases bA with
    | done g=>intro u v g1 g2 g3; omega
    | one g s1 _=>rw [Nat.zero_add,Nat.min_eq_right (by omega)] at s1; exact s1
 have first:∀ (c a:Nat) (O2:T AObj) (N2:Nat) (ys:List TE),xs.length - a≤c→a≤xs.length→Arr O2 lo hi s ys→Chg s O N O2 N2→Rg xs ys 0 xs.length→Fr ys 20 a→Goal P keep f0 Q (Wxsa ((xs.length:Nat):Int) s ((a:Nat):Int) ((a+20:Nat):Int) 20 rest O2 N2 G):=by
  intro c
  induction c with
  | zero =>
   intro a O2 N2 ys hc hal hA cA rA fA
   have lA:=rA.1
   refine ot zpN (fkf (decide_eq_false (by omega)) ?_)
   refine zlz hA (Nat.le_trans hN cA.1) (by omega) (by omega) hal fun O3 N3 zs h3 c3 r3 s3=>?_
   refine ot zeS ?_
   exact second _ 20 O3 N3 zs (Nat.le_refl _) (by omega) (by omega) h3 (cA.trans c3) (rA.trans (r3.mono (Nat.zero_le _) (Nat.le_refl _))) ((fA.same fun k hk=>r3.2.1 k (.inl hk)).bl (by omega) hal (.done (by omega)))
  | succ c ih =>
   intro a O2 N2 ys hc hal hA cA rA fA
   have lA:=rA.1
   by_cases hb:a+20≤xs.length
   ·refine ot zpN (fkt (decide_eq_true (by omega)) ?_)
    refine zlz hA (Nat.le_trans hN cA.1) (by omega) (by omega) (by omega) fun O3 N3 zs h3 c3 r3 s3=>?_
    refine ot zlH ?_
    have w4:IntKind.i64.wrap (((a+20:Nat):Int)+(20:Int))=((a+20+20:Nat):Int):=by rw [IntKind.wrap_i64]; omega
    rw [w4]
    exact ih (a+20) O3 N3 zs (by omega) hb h3 (cA.trans c3) (rA.trans (r3.mono (Nat.zero_le _) hb)) ((fA.same fun k hk=>r3.2.1 k (.inl hk)).snoc s3)
   ·refine ot zpN (fkf (decide_eq_false (by omega)) ?_)
    refine zlz hA (Nat.le_trans hN cA.1) (by omega) (by omega) hal fun O3 N3 zs h3 c3 r3 s3=>?_
    refine ot zeS ?_
    refine second _ 20 O3 N3 zs (Nat.le_refl _) (by omega) (by omega) h3 (cA.trans c3) (rA.trans (r3.mono (Nat.zero_le _) (Nat.le_refl _))) ((fA.same fun k hk=>r3.2.1 k (.inl hk)).bl (by omega) hal ?_)
    by_cases e:a<xs.length
    ·exact .one e (by rw [Nat.min_eq_right (by omega)]; exact s3) (.done (by omega))
    ·exact .done (by omega)
 exact ot t_sbi (first _ 0 O N xs (Nat.le_refl _) (Nat.zero_le _) h Chg.refl Rg.refl .zero)
theorem zq0 {lo hi:Nat}{s:AV}{xs:List TE}(h:Arr O lo hi s xs)(hN:hi≤N)(hx:xs.length<1000000){keep:Nat}{f0:FuncId}{Q:AV→AHeap→Prop}{rest:List AFrame}
 (hK:∀ O' N' ys td,Arr O' lo hi s ys→Chg s O N O' N'→Rg xs ys 0 xs.length→Sor ys 0 xs.length→Goal P keep f0 Q (AM.mk (RF 68 9 .leaf td) rest ⟨O',N',G⟩)):Goal P keep f0 Q (AM.mk (enF 68 [s,.fn (Fn.func 69) [] []]) rest ⟨O,N,G⟩):=by
 refine ot t_ssf ⟨_,(h.gv.sv tEn).len tSl _ _,?_⟩
 refine zso h hN hx fun O' N' ys td h2 c2 r2 s2=>?_
 exact ot znb (hK O' N' ys _ h2 c2 r2 s2)
end Go.Proofs.Ytcdigdplhlgcaaa.gx
end
section
set_option maxRecDepth 100000
set_option linter.unusedVariables false
set_option linter.unusedSectionVars false
set_option linter.unusedSimpArgs false
namespace Go.Proofs.Ytcdigdplhlgcaaa.gx
open Go Ev tp
section
variable (n j:Int) (sl sl2:AV) (rest:List AFrame) (O:T AObj) (N:Nat) (G:T (T AV)) (i1 i2 i3 i4 i5 i6:Nat) (s1 s2:AV) (z1:Int) (l1 l2:List UInt8)
noncomputable def Wcpa:AM:=⟨⟨70,66,(tW (tW tZ (.fn (Fn.func (71:FuncId)) [] []) (tY (.int .i64 j))) sl tZ),   [.code (cd P 70 [1,1,0,1,0,0]),.inLoop (cd P 70 [1,1,0,1,0,0]),.inBlock 0,.code (cd P 70 [1,1,1])],[],.run,CallKind.normal,none⟩,rest,⟨O,N,G⟩⟩
noncomputable def zrW:AFrame:=⟨70,66,(tW (tW (tX (tX (tY (.bool true)) (tY sl)) (tX (tY sl) (tY (.agg [.str l2,s2])))) (.fn (Fn.func (71:FuncId)) [] []) (tW (tX tZ (tY (.int .i64 (IntKind.i64.wrap (j - (1:Int)))))) (.int .i64 j) (tW (tY (.ptr i1 i2 i3)) sl tZ))) sl (tX (tX (tX tZ (tY (.int .i64 j))) (tW (tY (.int .i64 j)) (.int .i64 j) tZ)) (tX (tX (tY (.fn (Fn.func (71:FuncId)) [] [])) (tY (.ptr i4 i5 i6))) (tW (tY (.agg [.str l1,s1])) (.int .i64 z1) tZ)))),   [.drw (rg P 70 [1,1,0,1,0,0,1,0,0,0]) [10] [9,8,7,6,5,4,3,2,1,0],.code (cd P 70 [1,1,0,1,0,0,1,0,0,1]),.inBlock 1,.code (cd P 70 [1,1,0,1,0,0,1,1]),.inLoop (cd P (70:FuncId) [1,1,0,1,0,0]),.inBlock 0,.code (cd P (70:FuncId) [1,1,1])],[],.run,CallKind.normal,none⟩
noncomputable def zqA:AM:=⟨⟨70,66,(tW (tW (tX (tY (.int .i64 n)) tZ) (.fn (Fn.func (71:FuncId)) [] []) (tY (.int .i64 j))) sl (tX tZ (tY sl2))),   [.code (cd P 70 [1,1,0,1,0,0,1,0,0,1,0,1,0,1,0,0]),.inLoop (cd P 70 [1,1,0,1,0,0,1,0,0,1,0,1,0,1,0,0]),.inBlock 2,.code (cd P 70 [1,1,0,1,0,0,1,0,0,1,0,1,1]),.inBlock 1,.code (cd P (70:FuncId) [1,1,0,1,0,0,1,1]),.inLoop (cd P (70:FuncId) [1,1,0,1,0,0]),.inBlock 0,.code (cd P (70:FuncId) [1,1,1])],[],.run,CallKind.normal,none⟩,rest,⟨O,N,G⟩⟩
noncomputable def zri:AFrame:=⟨70,66,(tW (tW (tX (tW (tX tZ (tY (.agg [.str l2,s2]))) (.int .i64 n) (tX (tY sl2) tZ)) (tX (tX (tY (.bool true)) tZ) (tX (tY sl2) tZ))) (.fn (Fn.func (71:FuncId)) [] []) (tW (tX (tX (tY sl2) tZ) (tX (tY (.ptr i1 i2 i3)) tZ)) (.int .i64 j) (tX tZ (tX (tY (.int .i64 (IntKind.i64.wrap (n - (1:Int))))) tZ)))) sl (tX (tX (tX (tX (tY (.int .i64 n)) tZ) (tX (tY (.int .i64 n)) tZ)) (tX tZ (tX (tY (.int .i64 n)) tZ))) (tW (tX (tX (tY (.int .i64 z1)) tZ) (tX (tY (.agg [.str l1,s1])) tZ)) sl2 (tX (tX (tY (.fn (Fn.func (71:FuncId)) [] [])) tZ) (tX (tY (.ptr i4 i5 i6)) tZ))))),   [.drw (rg P 70 [1,1,0,1,0,0,1,0,0,1,0,1,0,1,0,0,1,0,0,0]) [10,11] [9,8,7,6,5,4,3,2,1,0],.code (cd P 70 [1,1,0,1,0,0,1,0,0,1,0,1,0,1,0,0,1,0,0,1]),.inBlock 3,.code (cd P 70 [1,1,0,1,0,0,1,0,0,1,0,1,0,1,0,0,1,1]),.inLoop (cd P (70:FuncId) [1,1,0,1,0,0,1,0,0,1,0,1,0,1,0,0]),.inBlock 2,.code (cd P (70:FuncId) [1,1,0,1,0,0,1,0,0,1,0,1,1]),.inBlock 1,.code (cd P (70:FuncId) [1,1,0,1,0,0,1,1]),.inLoop (cd P (70:FuncId) [1,1,0,1,0,0]),.inBlock 0,.code (cd P (70:FuncId) [1,1,1])],[],.run,CallKind.normal,none⟩
end
section
variable {R:AV→AHeap→Prop} {keep N i1c i2c i3c i4c i5c i6c:Nat} {f0:FuncId} {rest:List AFrame} {O:T AObj} {w w2 l1c l2c:List UInt8} {v v2 sl s1c s2c sl2:AV} {G:T (T AV)} {K:AM→Prop} {j z1c n:Int} {td:List AItem} {blq0:Bool}
theorem t_eqt:(∃ (O1:T AObj) (O2:T AObj),((Nat.beq (2) (AV.agg [AV.str w,v]).cells.length&&(AV.agg [AV.str w,v]).cells.all AV.one)=true∧T.set (some (AObj.cells (zd T.leaf 0 (AV.agg [AV.str w,v]).cells) (AV.agg [AV.str w,v]).cells.length 79 0 0 1 0 false T.leaf)) (⟨O,N,G⟩:AHeap).objs N=O1)∧((Nat.beq (2) (AV.agg [AV.str w2,v2]).cells.length&&(AV.agg [AV.str w2,v2]).cells.all AV.one)=true∧T.set (some (AObj.cells (zd T.leaf 0 (AV.agg [AV.str w2,v2]).cells) (AV.agg [AV.str w2,v2]).cells.length 79 0 0 1 0 false T.leaf)) (⟨O1,N+1,G⟩:AHeap).objs (N+1)=O2)∧(lC O2 (N+2) G N 0 (.str w))∧(zb (⟨O2,N+2,G⟩) (N+1) (0) (0) (1)=(some [.str w2]))∧K (AM.mk (RF 71 10 (tX tZ (tX (tY (.bool (w==w2))) tZ)) [.code (cd P 71 [1,1])]) rest ⟨O2,N+2,G⟩))=OT f0 R keep K (.ex fun O1:T AObj=>(.ex fun O2:T AObj=>(.seq [.run 2,.hopn (.nilp) O1 (N),.hopn (.nilp) O2 (N+1),.run 5,.hop (.str w) O2,.run 1,.hop (.str w2) O2,.run 4,.keep [4]] .fin))) ((AM.mk (enF 71 [.agg [.str w,v],.agg [.str w2,v2]]) rest ⟨O,N,G⟩)):=by kernel_rfl
theorem zr9:(∃ (z1:Int),(lN O N G 75 sl z1)∧((decide (z1<(2:Int)))=true→(K (AM.mk (RF 70 66 (tX tZ (tX (tY sl) tZ)) [.code (cd P 70 [1,0,1,0,1]),.code (cd P 70 [1,1])]) rest ⟨O,N,G⟩)))∧((decide (z1<(2:Int)))=false→(K (Wcpa 1 sl rest O N G))))=OT f0 R keep K (.ex fun z1:Int=>(.seq [.run 8,.hopn (.int .i64 z1) O (N),.run 2] (.fork 10 (.seq [.run 7,.keep [4]] .fin) (.seq [.run 9,.keep [0,1,5]] .fin)))) ((AM.mk (enF 70 [sl,.fn (Fn.func 71) [] []]) rest ⟨O,N,G⟩)):=by kernel_rfl
theorem zsK:(∃ (z1:Int),(lN O N G 75 sl z1)∧((decide (j<z1))=true→(∃ (i1:Nat) (i2:Nat) (i3:Nat) (l1:List UInt8) (s1:AV) (i4:Nat) (i5:Nat) (i6:Nat) (l2:List UInt8) (s2:AV),(iX 75 sl j i1 i2 i3)∧(zb (⟨O,N,G⟩) (i1) (i2) (i3) (2)=(some [.str l1,s1]))∧(zf P (75) (sl) (.int .i64 (IntKind.i64.wrap (j - (1:Int))))=(some (.ptr i4 i5 i6)))∧(zb (⟨O,N,G⟩) (i4) (i5) (i6) (2)=(some [.str l2,s2]))∧K (AM.mk (enF 71 [.agg [.str l1,s1],.agg [.str l2,s2]]) ((zrW j sl i1 i2 i3 i4 i5 i6 s1 s2 z1 l1 l2)::rest) ⟨O,N,G⟩)))∧((decide (j<z1))=false→(K (AM.mk (RF 70 66 (tX tZ (tX (tY sl) tZ)) [.code (cd P 70 [1,0,1,0,1])]) rest ⟨O,N,G⟩))))=OT f0 R keep K (.ex fun z1:Int=>(.seq [.run 5,.hopn (.int .i64 z1) O (N),.run 2] (.fork 15 (.ex fun i1:Nat=>(.ex fun i2:Nat=>(.ex fun i3:Nat=>(.ex fun l1:List UInt8=>(.ex fun s1:AV=>(.ex fun i4:Nat=>(.ex fun i5:Nat=>(.ex fun i6:Nat=>(.ex fun l2:List UInt8=>(.ex fun s2:AV=>(.seq [.run 9,.hopn (.ptr i1 i2 i3) O (N),.hop (.agg [.str l1,s1]) O,.run 3,.hopn (.ptr i4 i5 i6) O (N),.hop (.agg [.str l2,s2]) O,.run 1] .fin))))))))))) (.seq [.run 8,.keep [4]] .fin)))) ((Wcpa j sl rest O N G)):=by kernel_rfl
theorem zlj:(((blq0)=true→(∃ (s1:AV),(zK P (⟨O,N,G⟩) (75) (sl) ((some j)) (none) (none)=(some s1))∧K (zqA 1 j sl s1 rest O N G)))∧((blq0)=false→(K (Wcpa (IntKind.i64.wrap (j+(1:Int))) sl rest O N G))))=OT f0 R keep K (.seq [.run 2] (.fork 28 (.ex fun s1:AV=>(.seq [.run 5,.hop (s1) O,.run 9,.keep [0,1,5,6,7]] .fin)) (.seq [.run 9,.keep [0,1,5]] .fin))) ((AM.mk (RF 71 10 (tX tZ (tX (tY (.bool blq0)) tZ)) td) ((zrW j sl i1c i2c i3c i4c i5c i6c s1c s2c z1c l1c l2c)::rest) ⟨O,N,G⟩)):=by kernel_rfl
theorem zqX:(∃ (z1:Int),(lN O N G 75 sl2 z1)∧((decide (n<z1))=true→(∃ (i1:Nat) (i2:Nat) (i3:Nat) (l1:List UInt8) (s1:AV) (i4:Nat) (i5:Nat) (i6:Nat) (l2:List UInt8) (s2:AV),(iX 75 sl2 n i1 i2 i3)∧(zb (⟨O,N,G⟩) (i1) (i2) (i3) (2)=(some [.str l1,s1]))∧(zf P (75) (sl2) (.int .i64 (IntKind.i64.wrap (n - (1:Int))))=(some (.ptr i4 i5 i6)))∧(zb (⟨O,N,G⟩) (i4) (i5) (i6) (2)=(some [.str l2,s2]))∧K (AM.mk (enF 71 [.agg [.str l1,s1],.agg [.str l2,s2]]) ((zri n j sl sl2 i1 i2 i3 i4 i5 i6 s1 s2 z1 l1 l2)::rest) ⟨O,N,G⟩)))∧((decide (n<z1))=false→(∃ (s1:AV) (O1:T AObj) (s2:AV),(zK P (⟨O,N,G⟩) (75) (sl) ((some j)) (none) (none)=(some s1))∧(zh P (⟨O,N,G⟩) (Builtin.clear) ((some 75)) (none) ([s1])=(some (.val (.tup []) ⟨O1,N,G⟩)))∧(zK P (⟨O1,N,G⟩) (75) (sl) (none) ((some j)) (none)=(some s2))∧K (AM.mk (RF 70 66 (tX tZ (tX (tY s2) tZ)) [.code (cd P 70 [1,0,1,0,1]),.inBlock 1,.code (cd P (70:FuncId) [1,1,0,1,0,0,1,1]),.inLoop (cd P (70:FuncId) [1,1,0,1,0,0]),.inBlock 0,.code (cd P (70:FuncId) [1,1,1])]) rest ⟨O1,N,G⟩))))=OT f0 R keep K (.ex fun z1:Int=>(.seq [.run 5,.hopn (.int .i64 z1) O (N),.run 2] (.fork 35 (.ex fun i1:Nat=>(.ex fun i2:Nat=>(.ex fun i3:Nat=>(.ex fun l1:List UInt8=>(.ex fun s1:AV=>(.ex fun i4:Nat=>(.ex fun i5:Nat=>(.ex fun i6:Nat=>(.ex fun l2:List UInt8=>(.ex fun s2:AV=>(.seq [.run 9,.hopn (.ptr i1 i2 i3) O (N),.hop (.agg [.str l1,s1]) O,.run 3,.hopn (.ptr i4 i5 i6) O (N),.hop (.agg [.str l2,s2]) O,.run 1] .fin))))))))))) (.ex fun s1:AV=>(.ex fun O1:T AObj=>(.ex fun s2:AV=>(.seq [.run 6,.hop (s1) O,.hop (.tup []) O1,.run 5,.hop (s2) O1,.run 3,.keep [4]] .fin))))))) ((zqA n j sl sl2 rest O N G)):=by kernel_rfl
theorem zj7:((((!blq0))=true→(∃ (i1:Nat) (i2:Nat) (i3:Nat) (l1:List UInt8) (s1:AV) (i4:Nat) (i5:Nat) (i6:Nat) (O1:T AObj),(iX 75 sl2 n i1 i2 i3)∧(zb (⟨O,N,G⟩) (i1) (i2) (i3) (2)=(some [.str l1,s1]))∧(iX 75 sl j i4 i5 i6)∧((AV.agg [AV.str l1,s1]).cells.length.beq (2)=true∧zc (⟨O,N,G⟩:AHeap) i4 i5 i6 (AV.agg [AV.str l1,s1]).cells=some (⟨O1,N,G⟩:AHeap))∧K (zqA (IntKind.i64.wrap (n+(1:Int))) (IntKind.i64.wrap (j+(1:Int))) sl sl2 rest O1 N G)))∧(((!blq0))=false→(K (zqA (IntKind.i64.wrap (n+(1:Int))) j sl sl2 rest O N G))))=OT f0 R keep K (.seq [.run 3] (.fork 49 (.ex fun i1:Nat=>(.ex fun i2:Nat=>(.ex fun i3:Nat=>(.ex fun l1:List UInt8=>(.ex fun s1:AV=>(.ex fun i4:Nat=>(.ex fun i5:Nat=>(.ex fun i6:Nat=>(.ex fun O1:T AObj=>(.seq [.run 7,.hopn (.ptr i1 i2 i3) O (N),.hop (.agg [.str l1,s1]) O,.hopn (.ptr i4 i5 i6) O (N),.hopn (.nilp) O1 (N),.run 13,.keep [0,1,5,6,7]] .fin)))))))))) (.seq [.run 9,.keep [0,1,5,6,7]] .fin))) ((AM.mk (RF 71 10 (tX tZ (tX (tY (.bool blq0)) tZ)) td) ((zri n j sl sl2 i1c i2c i3c i4c i5c i6c s1c s2c z1c l1c l2c)::rest) ⟨O,N,G⟩)):=by kernel_rfl
end
variable {O O':T AObj} {N:Nat} {G:T (T AV)}
theorem zn7 {e e2:TE}{keep:Nat}{f0:FuncId}{Q:AV→AHeap→Prop}{rest:List AFrame}(hK:∀ O' N' td,Ext O N O' N'→Goal P keep f0 Q (AM.mk (RF 71 10 (tX tZ (tX (tY (.bool (e.1==e2.1))) tZ)) td) rest ⟨O',N',G⟩)):Goal P keep f0 Q (AM.mk (enF 71 [.agg [.str e.1,pv e.2],.agg [.str e2.1,pv e2.2]]) rest ⟨O,N,G⟩):=by
 obtain ⟨O1,e1,b1,f1⟩:=Obj.box (t:=79) [.str e.1,pv e.2] (by cases e.2 <;> rfl) O N 2 rfl
 obtain ⟨O2,e2',b2,f2⟩:=Obj.box (t:=79) [.str e2.1,pv e2.2] (by cases e2.2 <;> rfl) O1 (N+1) 2 rfl
 exact ot t_eqt ⟨O1,O2,e1,e2',(b1.same (f2 N (by omega))).ld 0 rfl,b2.ld 0 rfl,hK O2 (N+2) _ ⟨by omega,fun j hj=>(f2 j (by omega)).trans (f1 j (by omega))⟩⟩
theorem zhX {ri q o n st a b:Nat}(hab:a≤b)(hb:b≤n)(l0 h0:Option Int)(e0:l0=some ((a:Nat):Int)∨l0=none∧a=0)(e1:h0=some ((b:Nat):Int)∨h0=none∧b=n)(h:AHeap):zK P h 75 (.slg ri q o n st) l0 h0 none=some (.slg ri q (o+a*2) (b - a) (st+a)):=by
 have bnd:∀ cap,n≤cap→zL n cap l0 h0 none=some (a,b,cap):=fun cap hcap=>by
  unfold zL
  show (match z8 n cap false h0 with | none=>none | some h=>match zS l0 h with | none=>none | some l=>some (l,h,cap))=_
  have h1:z8 n cap false h0=some b:=by
   rcases e1 with rfl | ⟨rfl,rfl⟩
   ·show z7 _ cap=_
    unfold z7
    rw [if_pos ⟨by omega,by omega⟩]
    rfl
   ·rfl
  have h2:zS l0 b=some a:=by
   rcases e0 with rfl | ⟨rfl,rfl⟩
   ·show z7 _ b=_
    unfold z7
    rw [if_pos ⟨by omega,by omega⟩]
    rfl
   ·rfl
  rw [h1]
  simp only [h2]
 have red:zK P h 75 (.slg ri q o n st) l0 h0 none=(match yO (some 2) (.slg ri q o n st) l0 h0 none with | some v=>some v | none=>zec P h 75 (.slg ri q o n st) l0 h0 none):=by
  unfold zK zaT
  rw [tSl.und]
  simp only [tSl.size]
  cases yO (some 2) (.slg ri q o n st) l0 h0 none <;> rfl
 rw [red]
 unfold yO
 simp only [bnd n (Nat.le_refl _)]
 rfl
theorem Arr.tail {lo hi K:Nat}{s:AV}{xs:List TE}(h:Arr O lo hi s xs)(hk:K≤xs.length):∃ s1,(∀ hp,zK P hp 75 s (some ((K:Nat):Int)) none none=some s1)∧∀ (O':T AObj) (ys:List TE),Arr O' lo hi s ys→ys.length=xs.length→SV O' 2 tE lo hi (ys.drop K) s1:=by
 obtain ⟨ri,q,o,n,st,rfl⟩:=h.sg
 have hn:n=xs.length:=by
  have:=(h.gv.sv tEn).lens.1
  injection this
 refine ⟨_,fun hp=>zhX (b:=n) (by omega) (Nat.le_refl _) (some ((K:Nat):Int)) none (.inl rfl) (.inr ⟨rfl,rfl⟩) hp,fun O' ys g hl=>?_⟩
 obtain ⟨s',e,sv,_⟩:=(g.gv.sv tEn).sub tSl tEn (a:=K) (b:=ys.length) (by omega) (Nat.le_refl _) (some ((K:Nat):Int)) none (.inl rfl) (.inr ⟨rfl,rfl⟩) 0 .leaf
 rw [zhX (b:=n) (by omega) (Nat.le_refl _) (some ((K:Nat):Int)) none (.inl rfl) (.inr ⟨rfl,rfl⟩)] at e
 injection e with e
 subst e
 have:(ys.drop K).take (ys.length - K)=ys.drop K:=List.take_of_length_le (by rw [List.length_drop]; omega)
 rwa [this] at sv
theorem zl2:∀ n,(zH [AV.str [],.nilp] n).all AV.one=true∧(zH [AV.str [],.nilp] n).length=n*2
 | 0=>⟨rfl,rfl⟩
 | n+1=>by
  obtain ⟨h1,h2⟩:=zl2 n
  have e:zH [AV.str [],.nilp] (n+1)=[AV.str [],.nilp]++zH [AV.str [],.nilp] n:=rfl
  rw [e,List.all_append,List.length_append,h1,h2]
  exact ⟨rfl,by simp only [List.length_cons,List.length_nil]; omega⟩
theorem Arr.cut {lo hi j:Nat}{s:AV}{xs:List TE}(h:Arr O lo hi s xs)(hj:j≤xs.length)(N:Nat)(G:T (T AV)):∃ s1 O1 s2,zK P ⟨O,N,G⟩ 75 s (some ((j:Nat):Int)) none none=some s1∧zh P ⟨O,N,G⟩ .clear (some 75) none [s1]=some (.val (.tup []) ⟨O1,N,G⟩)∧zK P ⟨O1,N,G⟩ 75 s none (some ((j:Nat):Int)) none=some s2∧SV O1 2 tE lo hi (xs.take j) s2∧Chg s O N O1 N:=by
 obtain ⟨gv,sg⟩:=h
 rcases gv with ⟨rfl,_⟩ | ⟨ri,z,off,rfl,_⟩ | ⟨ri,q,st,c,l0,sgm,ex,rfl,g1,g2,g3,g4,g5⟩
 ·obtain ⟨_,_,_,_,_,h⟩:=sg; cases h
 ·obtain ⟨_,_,_,_,_,h⟩:=sg; cases h
 ·have hlt:(xs.take j).length=j:=by rw [List.length_take]; omega
  have hpre:At c (st*2) ((xs.take j).flatMap tE):=by
   have:=At.sub (a:=0) (n:=j*2) g5 (by rw [tEn.flat]; omega)
   rw [Nat.add_zero,List.drop_zero,tEn.take _ _ hj] at this
   exact this
  have hext:zD ex (st*2+xs.length*2) q q=some (st*2+xs.length*2):=by unfold zD; rw [if_pos rfl]
  have e1:=zhX (ri:=ri) (q:=q) (o:=st*2) (n:=xs.length) (st:=st) (a:=j) (b:=xs.length) hj (Nat.le_refl _) (some ((j:Nat):Int)) none (.inl rfl) (.inr ⟨rfl,rfl⟩) ⟨O,N,G⟩
  have e2:=fun hp=>zhX (ri:=ri) (q:=q) (o:=st*2) (n:=xs.length) (st:=st) (a:=0) (b:=j) (Nat.zero_le _) hj none (some ((j:Nat):Int)) (.inr ⟨rfl,rfl⟩) (.inl rfl) hp
  have svp:∀ {O1:T AObj} {c':T AV} {l1:Nat},O1.get ri=some (.cells c' (st*2+xs.length*2) 79 l1 q (q+1) 0 sgm ex)→l1≤q→At c' (st*2) ((xs.take j).flatMap tE)→SV O1 2 tE lo hi (xs.take j) (.slg ri q (st*2+0*2) (j - 0) (st+0)):=fun {O1 c' l1} h1 h2 h3 =>
   .inr (.inr ⟨ri,q,st,by rw [hlt]; rfl,g1,g2,.inl ⟨c',_,79,l1,q,q+1,0,sgm,ex,_,h1,hext,h2,Nat.le_refl _,by rw [tEn.flat,hlt]; omega,h3⟩⟩)
  have hz:vi P 75=some (.agg [.str [],.nilp]):=by kernel_rfl
  by_cases hn:xs.length - j=0
  ·refine ⟨_,O,_,e1,?_,e2 _,svp g4 g3 hpre,Chg.refl⟩
   show zdc (zbo P ⟨O,N,G⟩ 75 _)=_
   unfold zbo
   rw [tSl.und,hn]
   rfl
  ·obtain ⟨n,hn'⟩:∃ n,xs.length - j=n+1:=⟨xs.length - j - 1,by omega⟩
   obtain ⟨r1,r2⟩:=zl2 (n+1)
   have es:zc ⟨O,N,G⟩ ri q (st*2+j*2) (zH [AV.str [],.nilp] (n+1))=some ⟨O.set (some (.cells (zd c (st*2+j*2) (zH [AV.str [],.nilp] (n+1))) (st*2+xs.length*2) 79 q q (q+1) 0 sgm ex)) ri,N,G⟩:=by
    unfold zc
    show (match O.get ri with | some (.cells c n el lo hi nv fz sg ex)=>_ | _=>_)=_
    rw [g4]
    simp only [hext]
    rw [if_pos ⟨g3,Nat.le_refl _,by rw [r2]; omega,Nat.zero_le _,r1⟩,T.seq_eq]
    rfl
   refine ⟨_,O.set (some (.cells (zd c (st*2+j*2) (zH [AV.str [],.nilp] (n+1))) (st*2+xs.length*2) 79 q q (q+1) 0 sgm ex)) ri,_,e1,?_,e2 _,svp (c':=zd c (st*2+j*2) (zH [AV.str [],.nilp] (n+1))) (l1:=q) (by rw [T.get_set,if_pos rfl]) (Nat.le_refl _) (hpre.store (.inl (by rw [tEn.flat,hlt]; omega))),Nat.le_refl _,fun k _ hk=>by rw [T.get_set,if_neg (show ¬ k=ri from hk)]⟩
   show zdc (zbo P ⟨O,N,G⟩ 75 _)=_
   unfold zbo
   rw [tSl.und,hn']
   show zdc (jP ⟨O,N,G⟩ (vi P 75) ri q (st*2+j*2) (n+1))=_
   rw [hz]
   show zdc (zc ⟨O,N,G⟩ ri q (st*2+j*2) (zH [AV.str [],.nilp] (n+1)))=_
   rw [es]
   rfl
def Inc (xs:List TE) (n:Nat):Prop:=∀ u v,u<v→v<n→Op.bytesLess (Fx xs u).1 (Fx xs v).1=true
theorem Inc.snoc {xs:List TE}{n:Nat}(h:Inc xs n)(hl:n=0∨0<n∧Op.bytesLess (Fx xs (n - 1)).1 (Fx xs n).1=true):Inc xs (n+1):=by
 intro u v h1 h2
 by_cases e:v=n
 ·subst e
  rcases hl with rfl | ⟨h0,hl⟩
  ·omega
  ·by_cases e2:u=v - 1
   ·rw [e2]; exact hl
   ·exact kn (h u (v - 1) (by omega) (by omega)) hl
 ·exact h u v h1 (by omega)
theorem zrn {x y:zg}(h:Op.bytesLess y x=false)(g:¬ y=x):Op.bytesLess x y=true:=by
 cases e:Op.bytesLess x y with
 | true=>rfl
 | false=>exact absurd (zki h e) g
theorem zhU {xs:List TE}{i:Nat}(h:i<xs.length):Fx xs i∈xs:=List.mem_of_getElem? (zaZ h)
theorem zh5 {xs:List TE}{e:TE}(h:e∈xs):∃ i,i<xs.length∧Fx xs i=e:=by
 obtain ⟨i,hi,rfl⟩:=List.mem_iff_getElem.1 h
 refine ⟨i,hi,?_⟩
 have:=zaZ hi
 rw [List.getElem?_eq_getElem hi] at this
 exact (Option.some.inj this).symm
theorem zdB {xs:List TE}{j u:Nat}(h:u<j)(hj:j≤xs.length):Fx (xs.take j) u=Fx xs u:=by
 unfold Fx
 rw [List.getD_eq_getElem?_getD,List.getElem?_take_of_lt h,List.getD_eq_getElem?_getD]
theorem zqW {lo hi:Nat}{s:AV}{xs:List TE}(h:Arr O lo hi s xs)(hN:hi≤N)(hx:xs.length<1000000)(so:Sor xs 0 xs.length){keep:Nat}{f0:FuncId}{Q:AV→AHeap→Prop}{rest:List AFrame}
 (hK:∀ O' N' cs s' td,Chg s O N O' N'→SV O' 2 tE lo hi cs s'→Inc cs cs.length→(∀ e∈cs,e∈xs)→(∀ e∈xs,∃ c∈cs,c.1=e.1)→cs.length≤xs.length→Goal P keep f0 Q (AM.mk (RF 70 66 (tX tZ (tX (tY s') tZ)) td) rest ⟨O',N',G⟩)):Goal P keep f0 Q (AM.mk (enF 70 [s,.fn (Fn.func 71) [] []]) rest ⟨O,N,G⟩):=by
 have all:Inc xs xs.length→∀ O' N' td,Chg s O N O' N'→Arr O' lo hi s xs→Goal P keep f0 Q (AM.mk (RF 70 66 (tX tZ (tX (tY s) tZ)) td) rest ⟨O',N',G⟩):=fun hi' O' N' td c2 h2=>hK O' N' xs s td c2 (h2.gv.sv tEn) hi' (fun e he=>he) (fun e he=>⟨e,he,rfl⟩) (Nat.le_refl _)
 have second:∀ (K:Nat) (s1:AV),1≤K→K<xs.length→(∀ hp,zK P hp 75 s (some ((K:Nat):Int)) none none=some s1)→(∀ (O':T AObj) (ys:List TE),Arr O' lo hi s ys→ys.length=xs.length→SV O' 2 tE lo hi (ys.drop K) s1)→∀ (c k j:Nat) (O2:T AObj) (N2:Nat) (zs:List TE),K+k+c=xs.length→1≤k→1≤j→j+1≤K+k→Arr O2 lo hi s zs→Chg s O N O2 N2→zs.length=xs.length→(∀ u,K+k≤u+1→Fx zs u=Fx xs u)→Inc zs j→(Fx zs (j - 1)).1=(Fx xs (K+k - 1)).1→(∀ u,u<j→∃ i,i<K+k∧Fx zs u=Fx xs i)→(∀ i,i<K+k→∃ u,u<j∧(Fx zs u).1=(Fx xs i).1)→Goal P keep f0 Q (zqA ((k:Nat):Int) ((j:Nat):Int) s s1 rest O2 N2 G):=by
  intro K s1 hK1 hKl eS svS c
  induction c with
  | zero =>
   intro k j O2 N2 zs hc hk hj hjk hA cA lA same inc last from1 to1
   have sv1:=svS O2 zs hA lA
   obtain ⟨q1,O3,q2,e1,e2,e3,sv,c3⟩:=hA.cut (j:=j) (by omega) N2 G
   refine ot zqX ⟨_,sv1.len tSl _ _,fkf (decide_eq_false (by rw [List.length_drop]; omega)) ⟨q1,O3,q2,e1,e2,e3,?_⟩⟩
   have hl:(zs.take j).length=j:=by rw [List.length_take]; omega
   refine hK O3 N2 (zs.take j) q2 _ (cA.trans c3) sv (fun u v g1 g2=>?_) (fun e he=>?_) (fun e he=>?_) (by omega)
   ·rw [hl] at g2
    rw [zdB (by omega) (by omega),zdB g2 (by omega)]
    exact inc u v g1 g2
   ·obtain ⟨u,hu,rfl⟩:=zh5 he
    rw [hl] at hu
    rw [zdB hu (by omega)]
    obtain ⟨i,hi1,hi2⟩:=from1 u hu
    rw [hi2]
    exact zhU (by omega)
   ·obtain ⟨i,hi1,rfl⟩:=zh5 he
    obtain ⟨u,hu1,hu2⟩:=to1 i (by omega)
    refine ⟨Fx (zs.take j) u,zhU (by rw [hl]; exact hu1),?_⟩
    rw [zdB hu1 (by omega)]
    exact hu2
  | succ c ih =>
   intro k j O2 N2 zs hc hk hj hjk hA cA lA same inc last from1 to1
   have sv1:=svS O2 zs hA lA
   have w1:IntKind.i64.wrap (((k:Nat):Int) - (1:Int))=((k - 1:Nat):Int):=by rw [IntKind.wrap_i64]; omega
   have w2:IntKind.i64.wrap (((k:Nat):Int)+(1:Int))=((k+1:Nat):Int):=zq (by omega)
   have w3:IntKind.i64.wrap (((j:Nat):Int)+(1:Int))=((j+1:Nat):Int):=zq (by omega)
   have at1:∀ i,K+i<xs.length→(zs.drop K)[i]?=some (Fx zs (K+i)):=fun i hi'=>by rw [List.getElem?_drop]; exact zaZ (by omega)
   obtain ⟨a1,a2,a3,_,_,eA,rA,_⟩:=sv1.at tSl tEn (at1 k (by omega))
   obtain ⟨b1,b2,b3,_,_,eB,rB,_⟩:=sv1.at tSl tEn (at1 (k - 1) (by omega))
   rw [← w1] at eB
   have nn:=cA.1
   refine ot zqX ⟨_,sv1.len tSl _ _,fkt (decide_eq_true (by rw [List.length_drop]; omega)) ⟨a1,a2,a3,_,_,b1,b2,b3,_,_,eA,rA.load rfl _ _,eB,rB.load rfl _ _,?_⟩⟩
   refine zn7 fun O3 N3 td ex3=>?_
   have h3:=hA.ext ex3 (by omega)
   have c3:=cA.trans (Chg.ext ex3)
   have e1:Fx zs (K+k)=Fx xs (K+k):=same _ (by omega)
   have e2:Fx zs (K+(k - 1))=Fx xs (K+k - 1):=by rw [same _ (by omega)]; congr 1; omega
   rw [e1,e2]
   refine ot zj7 ⟨fun hc=>?_,fun hc=>?_⟩
   ·have ne:¬ (Fx xs (K+k)).1=(Fx xs (K+k - 1)).1:=by simpa using hc
    have lt:=zrn (so (K+k - 1) (K+k) (Nat.zero_le _) (by omega) (by omega)) ne
    have sv3:=svS O3 zs h3 lA
    obtain ⟨d1,d2,d3,_,_,eD,rD,_⟩:=sv3.at tSl tEn (at1 k (by omega))
    obtain ⟨p1,p2,p3,O4,eP,sP,g4,f4,sd⟩:=h3.gv.put2 tSl tEn (j:=j) (b:=Fx zs (K+k)) (zaZ (by omega)) h3.sg N3 G
    have h4:Arr O4 lo hi s (zs.set j (Fx zs (K+k))):=⟨g4,h3.sg⟩
    have fs:=fun u=>zk2 (xs:=zs) (i:=j) (k:=u) (v:=Fx zs (K+k)) (by omega)
    refine ⟨d1,d2,d3,_,_,p1,p2,p3,O4,eD,rD.load rfl _ _,eP,st2 sP,?_⟩
    rw [w2,w3]
    refine ih (k+1) (j+1) O4 N3 _ (by omega) (by omega) (by omega) (by omega) h4 (c3.trans ⟨Nat.le_refl _,fun u _ hu=>f4 u (by rw [sd]; exact hu)⟩) (by rw [List.length_set,lA]) (fun u hu=>by rw [fs,if_neg (by omega)]; exact same u (by omega)) (Inc.snoc (fun u v g1 g2=>by rw [fs,fs,if_neg (by omega),if_neg (by omega)]; exact inc u v g1 g2) (.inr ⟨by omega,by rw [fs,fs,if_neg (by omega),if_pos rfl,last,e1]; exact lt⟩)) (by rw [fs,if_pos (by omega),e1,show K+(k+1) - 1=K+k by omega]) (fun u hu=>?_) (fun i hi1=>?_)
    ·rw [fs]
     split
     ·exact ⟨K+k,by omega,e1⟩
     ·obtain ⟨i,g1,g2⟩:=from1 u (by omega)
      exact ⟨i,by omega,g2⟩
    ·by_cases e:i=K+k
     ·exact ⟨j,by omega,by rw [fs,if_pos rfl,e1,e]⟩
     ·obtain ⟨u,g1,g2⟩:=to1 i (by omega)
      exact ⟨u,by omega,by rw [fs,if_neg (by omega)]; exact g2⟩
   ·have eq:(Fx xs (K+k)).1=(Fx xs (K+k - 1)).1:=by simpa using hc
    rw [w2]
    refine ih (k+1) j O3 N3 zs (by omega) (by omega) hj (by omega) h3 c3 lA (fun u hu=>same u (by omega)) inc (by rw [last,show K+(k+1) - 1=K+k by omega,eq]) (fun u hu=>?_) (fun i hi1=>?_)
    ·obtain ⟨i,g1,g2⟩:=from1 u hu
     exact ⟨i,by omega,g2⟩
    ·by_cases e:i=K+k
     ·exact ⟨j - 1,by omega,by rw [last,e,eq]⟩
     ·obtain ⟨u,g1,g2⟩:=to1 i (by omega)
      exact ⟨u,g1,g2⟩
 have first:∀ (c k:Nat) (O2:T AObj) (N2:Nat),k+c=xs.length→1≤k→Arr O2 lo hi s xs→Chg s O N O2 N2→Inc xs k→Goal P keep f0 Q (Wcpa ((k:Nat):Int) s rest O2 N2 G):=by
  intro c
  induction c with
  | zero =>
   intro k O2 N2 hc hk hA cA inc
   refine ot zsK ⟨_,(hA.gv.sv tEn).len tSl _ _,fkf (decide_eq_false (by omega)) ?_⟩
   exact all (by rw [← hc]; exact inc) O2 N2 _ cA hA
  | succ c ih =>
   intro k O2 N2 hc hk hA cA inc
   have w1:IntKind.i64.wrap (((k:Nat):Int) - (1:Int))=((k - 1:Nat):Int):=by rw [IntKind.wrap_i64]; omega
   have w2:IntKind.i64.wrap (((k:Nat):Int)+(1:Int))=((k+1:Nat):Int):=zq (by omega)
   obtain ⟨a1,a2,a3,eA,lA⟩:=hA.elem (i:=k) (by omega)
   obtain ⟨b1,b2,b3,eB,lB⟩:=hA.elem (i:=k - 1) (by omega)
   rw [← w1] at eB
   have nn:=cA.1
   refine ot zsK ⟨_,(hA.gv.sv tEn).len tSl _ _,fkt (decide_eq_true (by omega)) ⟨a1,a2,a3,_,_,b1,b2,b3,_,_,eA,lA _ _,eB,lB _ _,?_⟩⟩
   refine zn7 fun O3 N3 td ex3=>?_
   have h3:=hA.ext ex3 (by omega)
   have c3:=cA.trans (Chg.ext ex3)
   refine ot zlj ⟨fun hc=>?_,fun hc=>?_⟩
   ·have eq:(Fx xs k).1=(Fx xs (k - 1)).1:=by simpa using hc
    obtain ⟨s1,e1,sv1⟩:=h3.tail (K:=k) (by omega)
    refine ⟨s1,e1 _,?_⟩
    refine second k s1 hk (by omega) e1 sv1 (xs.length - (k+1)) 1 k O3 N3 xs (by omega) (Nat.le_refl _) hk (by omega) h3 c3 rfl (fun u _=>rfl) inc (by rw [show k+1 - 1=k by omega,eq]) (fun u hu=>⟨u,by omega,rfl⟩) (fun i hi1=>?_)
    by_cases e:i=k
    ·exact ⟨k - 1,by omega,by rw [e,eq]⟩
    ·exact ⟨i,by omega,rfl⟩
   ·have ne:¬ (Fx xs k).1=(Fx xs (k - 1)).1:=by simpa using hc
    rw [w2]
    exact ih (k+1) O3 N3 (by omega) (by omega) h3 c3 (inc.snoc (.inr ⟨by omega,zrn (so (k - 1) k (Nat.zero_le _) (by omega) (by omega)) ne⟩))
 by_cases h2:xs.length<2
 ·refine ot zr9 ⟨_,(h.gv.sv tEn).len tSl _ _,fkt (decide_eq_true (by omega)) ?_⟩
  exact all (fun u v g1 g2=>by omega) O N _ Chg.refl h
 ·refine ot zr9 ⟨_,(h.gv.sv tEn).len tSl _ _,fkf (decide_eq_false (by omega)) ?_⟩
  exact first (xs.length - 1) 1 O N (by omega) (Nat.le_refl _) h Chg.refl (fun u v g1 g2=>by omega)
end Go.Proofs.Ytcdigdplhlgcaaa.gx
end
section
set_option maxRecDepth 100000
set_option linter.unusedVariables false
set_option linter.unusedSectionVars false
set_option linter.unusedSimpArgs false
namespace Go.Proofs.Ytcdigdplhlgcaaa.gx
open Go Ev tp
section
variable (q:Nat) (sa sa2:AV) (n j j2 nn:Int) (sl2:AV) (rest:List AFrame) (O:T AObj) (N:Nat) (G:T (T AV)) (s1:AV)
noncomputable def zrq:AM:=⟨⟨67,45,(tX (tX (tY sl2) (tX (tY (.int .i64 n)) tZ)) (tX (tX (tY sa) tZ) (tX (tY (.int .i64 j)) tZ))),   [.code (cd P 67 [1,1,0,1,0,0]),.inLoop (cd P 67 [1,1,0,1,0,0]),.inBlock 0,.code (cd P 67 [1,1,1])],[],.run,CallKind.normal,none⟩,rest,⟨O,N,G⟩⟩
noncomputable def zoL:AFrame:=⟨67,45,(tX (tX (tX tZ (tX (tY sl2) tZ)) (tW (tY (.int .i64 n)) (.ptr q 0 0) tZ)) (tX (tX (tY sa) (tX (tY (.ptr q 0 0)) tZ)) (tX (tY (.int .i64 j)) tZ))),   [.ops (rg P 67 [1,1,0,1,0,0,1,1,0,0,1,0,1,0,0]).toList ((rg P 67 [1,1,0,1,0,0,1,1,0,0,1,0,1,0,0]).toList.drop 2),.code (cd P 67 [1,1,0,1,0,0,1,1,0,0,1,0,1,0,1]),.code (cd P 67 [1,1,0,1,0,0,1,1,0,0,1,1]),.inBlock 1,.code (cd P 67 [1,1,0,1,0,0,1,1,1]),.inLoop (cd P (67:FuncId) [1,1,0,1,0,0]),.inBlock 0,.code (cd P (67:FuncId) [1,1,1])],[],.run,CallKind.normal,none⟩
noncomputable def Walu:AM:=⟨⟨67,45,(tX (tX (tW (tX (tX (tY (.int .i64 j2)) tZ) tZ) sl2 tZ) (tX (tY (.int .i64 n)) (tX tZ (tY sa2)))) (tX (tX (tY sa) tZ) (tX (tY (.int .i64 j)) (tX tZ (tY (.int .i64 nn)))))),   [.code (cd P 67 [1,1,0,1,0,0,1,1,0,0,1,1,1,0,0]),.inLoop (cd P 67 [1,1,0,1,0,0,1,1,0,0,1,1,1,0,0]),.inBlock 2,.inBlock 1,.code (cd P 67 [1,1,0,1,0,0,1,1,1]),.inLoop (cd P (67:FuncId) [1,1,0,1,0,0]),.inBlock 0,.code (cd P (67:FuncId) [1,1,1])],[],.run,CallKind.normal,none⟩,rest,⟨O,N,G⟩⟩
noncomputable def zrQ:AFrame:=⟨67,45,(tX (tX (tX (tW (tX (tY (.int .i64 j2)) tZ) s1 tZ) (tX (tX (tY sl2) tZ) tZ)) (tX (tY (.int .i64 n)) (tX tZ (tY sa2)))) (tX (tX (tY sa) (tX (tX (tY s1) tZ) tZ)) (tX (tY (.int .i64 j)) (tX tZ (tY (.int .i64 nn)))))),   [.ops (rg P 67 [1,1,0,1,0,0,1,1,0,0,1,1,1,0,0,1,1,0,0,1]).toList ((rg P 67 [1,1,0,1,0,0,1,1,0,0,1,1,1,0,0,1,1,0,0,1]).toList.drop 2),.inBlock 3,.code (cd P 67 [1,1,0,1,0,0,1,1,0,0,1,1,1,0,0,1,1,1]),.inLoop (cd P (67:FuncId) [1,1,0,1,0,0,1,1,0,0,1,1,1,0,0]),.inBlock 2,.inBlock 1,.code (cd P (67:FuncId) [1,1,0,1,0,0,1,1,1]),.inLoop (cd P (67:FuncId) [1,1,0,1,0,0]),.inBlock 0,.code (cd P (67:FuncId) [1,1,1])],[],.run,CallKind.normal,none⟩
noncomputable def Wsa6:AM:=⟨⟨55,17,(tX (tW (tX (tY sa) tZ) (.fn (Fn.func (66:FuncId)) [] []) (tX (tY (.int .i64 j)) tZ)) (tX (tX (tY (.int .i64 n)) tZ) tZ)),   [.code (cd P 55 [1,0,1,0,0]),.inLoop (cd P 55 [1,0,1,0,0]),.inBlock 0,.code (cd P 55 [1,1])],[],.run,CallKind.normal,none⟩,rest,⟨O,N,G⟩⟩
noncomputable def znC:AFrame:=⟨55,17,(tX (tW (tX (tY sa) tZ) (.fn (Fn.func (66:FuncId)) [] []) (tX (tY (.int .i64 j)) (tY (.fn (Fn.func (66:FuncId)) [] [])))) (tX (tX (tY (.int .i64 n)) tZ) (tX tZ (tY s1)))),   [.ops (rg P 55 [1,0,1,0,0,1,1,0,0,1,0]).toList ((rg P 55 [1,0,1,0,0,1,1,0,0,1,0]).toList.drop 2),.code (cd P 55 [1,0,1,0,0,1,1,0,0,1,1]),.inBlock 1,.code (cd P 55 [1,0,1,0,0,1,1,1]),.inLoop (cd P (55:FuncId) [1,0,1,0,0]),.inBlock 0,.code (cd P (55:FuncId) [1,1])],[],.run,CallKind.normal,none⟩
end
section
variable {R:AV→AHeap→Prop} {keep N m q:Nat} {f0:FuncId} {rest:List AFrame} {O:T AObj} {k n j k2 j2 nn:Int} {G:T (T AV)} {K:AM→Prop} {sa s1c sl2 sa2:AV} {td:List AItem} {blq0:Bool} {lrq0:List UInt8}
theorem zqJ:((lC O N G m 0 (.int .i64 k))∧K (AM.mk (RF 66 8 (tX tZ (tY (.bool (k==(1:Int))))) [.code (cd P 66 [1,1])]) rest ⟨O,N,G⟩))=OT f0 R keep K (.seq [.run 9,.hop (.int .i64 k) O,.run 4,.keep [2]] .fin) ((AM.mk (enF 66 [.ptr m 0 0]) rest ⟨O,N,G⟩)):=by kernel_rfl
theorem zrt:(∃ (z1:Int),(lN O N G 33 sa z1)∧K (Wsa6 sa z1 0 rest O N G))=OT f0 R keep K (.ex fun z1:Int=>(.seq [.run 8,.hopn (.int .i64 z1) O (N),.run 4,.keep [1,7,8,9]] .fin)) ((AM.mk (enF 55 [sa,.fn (Fn.func 66) [] []]) rest ⟨O,N,G⟩)):=by kernel_rfl
theorem znA:(((decide (j<n))=true→(∃ (i1:Nat) (i2:Nat) (i3:Nat) (s1:AV),(iX 33 sa j i1 i2 i3)∧(lR O N G i1 i2 i3 s1)∧K (AM.mk (enF 66 [s1]) ((znC sa n j s1)::rest) ⟨O,N,G⟩)))∧((decide (j<n))=false→(K (AM.mk (RF 55 17 (tX tZ (tX (tY (.bool false)) tZ)) [.code (cd P 55 [1,0,1,0,0,1,1,0,0,1,1,0,1])]) rest ⟨O,N,G⟩))))=OT f0 R keep K (.seq [.run 5] (.fork 10 (.ex fun i1:Nat=>(.ex fun i2:Nat=>(.ex fun i3:Nat=>(.ex fun s1:AV=>(.seq [.run 6,.hopn (.ptr i1 i2 i3) O (N),.hop (s1) O,.run 6,.keep [1,7,8,9,13,14],.run 1] .fin))))) (.seq [.run 7,.keep [4]] .fin))) ((Wsa6 sa n j rest O N G)):=by kernel_rfl
theorem zjh:(((blq0)=true→(K (AM.mk (RF 55 17 (tX tZ (tX (tY (.bool true)) tZ)) [.code (cd P 66 [1,1]),.inBlock 1,.code (cd P (55:FuncId) [1,0,1,0,0,1,1,1]),.inLoop (cd P (55:FuncId) [1,0,1,0,0]),.inBlock 0,.code (cd P (55:FuncId) [1,1])]) rest ⟨O,N,G⟩)))∧((blq0)=false→(K (Wsa6 sa n (IntKind.i64.wrap (j+(1:Int))) rest O N G))))=OT f0 R keep K (.seq [.run 2] (.fork 15 (.seq [.run 6,.keep [4]] .fin) (.seq [.run 8,.keep [1,7,8,9]] .fin))) ((AM.mk (RF 66 8 (tX tZ (tY (.bool blq0))) td) ((znC sa n j s1c)::rest) ⟨O,N,G⟩)):=by kernel_rfl
theorem t_alt:(∃ (z1:Int),(lN O N G 33 sa z1)∧K (zrq sa z1 0 (.nils 0 0) rest O N G))=OT f0 R keep K (.ex fun z1:Int=>(.seq [.run 12,.hopn (.int .i64 z1) O (N),.run 4,.keep [3,8,9,10]] .fin)) ((AM.mk (enF 67 [sa]) rest ⟨O,N,G⟩)):=by kernel_rfl
theorem zq4:(((decide (j<n))=true→(∃ (i1:Nat) (i2:Nat) (i3:Nat),(iX 33 sa j i1 i2 i3)∧(lR O N G i1 i2 i3 (.ptr q 0 0))∧(lC O N G q 0 (.int .i64 k2))∧(((k2 != (9:Int)))=true→(K (AM.mk (enF 47 [.ptr q 0 0]) ((zoL q sa n j sl2)::rest) ⟨O,N,G⟩)))∧(((k2 != (9:Int)))=false→(∃ (z1:Int),(lC O N G q 3 sa2)∧(lN O N G 33 sa2 z1)∧K (Walu sa sa2 n j 0 z1 sl2 rest O N G)))))∧((decide (j<n))=false→(K (AM.mk (RF 67 45 (tX tZ (tY sl2)) [.code (cd P 67 [1,1,1,1])]) rest ⟨O,N,G⟩))))=OT f0 R keep K (.seq [.run 5] (.fork 11 (.ex fun i1:Nat=>(.ex fun i2:Nat=>(.ex fun i3:Nat=>(.seq [.run 6,.hopn (.ptr i1 i2 i3) O (N),.hop (.ptr q 0 0) O,.run 8,.hop (.int .i64 k2) O,.run 2] (.fork 18 (.seq [.run 5,.keep [5,8,9,10,19,20],.run 1] .fin) (.ex fun z1:Int=>(.seq [.run 7,.hop (sa2) O,.hopn (.int .i64 z1) O (N),.run 4,.keep [3,8,9,10,29,30,31]] .fin))))))) (.seq [.run 8,.keep [2]] .fin))) ((zrq sa n j sl2 rest O N G)):=by kernel_rfl
theorem ziZ:(∃ (O1:T AObj) (s1:AV) (O2:T AObj) (N1:Nat),(ze P (⟨O,N,G⟩) (75) (1) ([(0,.agg [.str lrq0,.ptr q 0 0])])=(some (.slc N 0 0 1 1,⟨O1,N+1,G⟩)))∧(zh P (⟨O1,N+1,G⟩) (Builtin.append) ((some 75)) ((some 75)) ([sl2,.slc N 0 0 1 1])=(some (.val s1 ⟨O2,N1,G⟩)))∧K (zrq sa n (IntKind.i64.wrap (j+(1:Int))) s1 rest O2 N1 G))=OT f0 R keep K (.ex fun O1:T AObj=>(.ex fun s1:AV=>(.ex fun O2:T AObj=>(.ex fun N1:Nat=>(.seq [.run 3,.hopn (.slc N 0 0 1 1) O1 (N+1),.hopn (s1) O2 (N1),.run 8,.keep [3,8,9,10]] .fin))))) ((AM.mk (RF 47 12 (tX tZ (tY (.str lrq0))) td) ((zoL q sa n j sl2)::rest) ⟨O,N,G⟩)):=by kernel_rfl
theorem zqM:(((decide (j2<nn))=true→(∃ (i1:Nat) (i2:Nat) (i3:Nat) (s1:AV),(iX 33 sa2 j2 i1 i2 i3)∧(lR O N G i1 i2 i3 s1)∧K (AM.mk (enF 47 [s1]) ((zrQ sa sa2 n j j2 nn sl2 s1)::rest) ⟨O,N,G⟩)))∧((decide (j2<nn))=false→(K (zrq sa n (IntKind.i64.wrap (j+(1:Int))) sl2 rest O N G))))=OT f0 R keep K (.seq [.run 5] (.fork 32 (.ex fun i1:Nat=>(.ex fun i2:Nat=>(.ex fun i3:Nat=>(.ex fun s1:AV=>(.seq [.run 6,.hopn (.ptr i1 i2 i3) O (N),.hop (s1) O,.run 5,.keep [7,8,9,10,29,30,31,35,36],.run 1] .fin))))) (.seq [.run 8,.keep [3,8,9,10]] .fin))) ((Walu sa sa2 n j j2 nn sl2 rest O N G)):=by kernel_rfl
theorem zlX:(∃ (O1:T AObj) (s1:AV) (O2:T AObj) (N1:Nat),(qR P (79) ([(0,.str lrq0),(1,s1c)])=(some (.agg [.str lrq0,s1c])))∧(ze P (⟨O,N,G⟩) (75) (1) ([(0,.agg [.str lrq0,s1c])])=(some (.slc N 0 0 1 1,⟨O1,N+1,G⟩)))∧(zh P (⟨O1,N+1,G⟩) (Builtin.append) ((some 75)) ((some 75)) ([sl2,.slc N 0 0 1 1])=(some (.val s1 ⟨O2,N1,G⟩)))∧K (Walu sa sa2 n j (IntKind.i64.wrap (j2+(1:Int))) nn s1 rest O2 N1 G))=OT f0 R keep K (.ex fun O1:T AObj=>(.ex fun s1:AV=>(.ex fun O2:T AObj=>(.ex fun N1:Nat=>(.seq [.run 2,.hopn (.agg [.str lrq0,s1c]) O (N),.hopn (.slc N 0 0 1 1) O1 (N+1),.hopn (s1) O2 (N1),.run 8,.keep [3,8,9,10,29,30,31]] .fin))))) ((AM.mk (RF 47 12 (tX tZ (tY (.str lrq0))) td) ((zrQ sa sa2 n j j2 nn sl2 s1c)::rest) ⟨O,N,G⟩)):=by kernel_rfl
end
variable {O O':T AObj} {N:Nat} {G:T (T AV)}
theorem zr4 {t:Ty}{p:Option Nat}{hi:Nat}(ht:Tr O hi t p)(hn:isNo t=false){keep:Nat}{f0:FuncId}{Q:AV→AHeap→Prop}{rest:List AFrame}
 (hK:∀ td,Goal P keep f0 Q (AM.mk (RF 66 8 (tX tZ (tY (.bool (kd t==1)))) td) rest ⟨O,N,G⟩)):Goal P keep f0 Q (AM.mk (enF 66 [pv p]) rest ⟨O,N,G⟩):=by
 cases t with
 | no=>cases hn
 | mk k nm ns aa r =>
  obtain ⟨id,sn,sb,pq,q,rfl,hid,hob,_⟩:=ht.inv
  exact ot zqJ ⟨hob.ld 0 rfl,hK _⟩
theorem zsl {ts:List Ty}{ps:List (Option Nat)}{sa:AV}{hi:Nat}(hs:SV O 1 pE 0 hi ps sa)(hl:ps.length=ts.length)(hm:ts.length<1000000)(ht:∀ (j:Nat) (x:Ty) (p:Option Nat),ts[j]?=some x→ps[j]?=some p→Tr O hi x p)(hc:∀ x∈ts,isNo x=false){keep:Nat}{f0:FuncId}{Q:AV→AHeap→Prop}{rest:List AFrame}
 (hK:∀ td,Goal P keep f0 Q (AM.mk (RF 55 17 (tX tZ (tX (tY (.bool (ts.any (fun x=>kd x==1)))) tZ)) td) rest ⟨O,N,G⟩)):Goal P keep f0 Q (AM.mk (enF 55 [sa,.fn (Fn.func 66) [] []]) rest ⟨O,N,G⟩):=by
 have loop:∀ (c i:Nat),i+c=ts.length→ts.any (fun x=>kd x==1)=(ts.drop i).any (fun x=>kd x==1)→Goal P keep f0 Q (Wsa6 sa ((ps.length:Nat):Int) ((i:Nat):Int) rest O N G):=by
  intro c
  induction c with
  | zero =>
   intro i hi' hd
   refine ot znA (fkf (decide_eq_false (by omega)) ?_)
   have hf:ts.any (fun x=>kd x==1)=false:=by rw [hd,List.drop_of_length_le (by omega)]; rfl
   rw [hf] at hK
   exact hK _
  | succ c ih =>
   intro i hi' hd
   obtain ⟨x,hx,hxm⟩:=nth (l:=ts) (j:=i) (by omega)
   obtain ⟨p,hp,_⟩:=nth (l:=ps) (j:=i) (by omega)
   obtain ⟨i1,i2,i3,_,_,eA,rd,_⟩:=hs.at pSl pEn hp
   refine ot znA (fkt (decide_eq_true (by omega)) ⟨i1,i2,i3,_,eA,rd.load rfl _ _,?_⟩)
   refine zr4 (ht i x p hx hp) (hc x hxm) fun td=>?_
   refine ot zjh ⟨fun hb=>?_,fun hb=>?_⟩
   ·have hf:ts.any (fun x=>kd x==1)=true:=by rw [hd,zr hx,List.any_cons,hb]; rfl
    rw [hf] at hK
    exact hK _
   ·have nx:=ih (i+1) (by omega) (by rw [hd,zr hx,List.any_cons,hb,Bool.false_or])
    rw [← zq (i:=i) (by omega)] at nx
    exact nx
 exact ot zrt ⟨_,hs.len pSl _ _,loop ts.length 0 (Nat.zero_add _) rfl⟩
def AltR (O:T AObj) (hi:Nat) (es:List TE) (fs:List Ty):Prop:=es.length=fs.length∧∀ (j:Nat) (e:TE) (x:Ty),es[j]?=some e→fs[j]?=some x→e.1=wr x∧Tr O hi x e.2
theorem AltR.nil {hi:Nat}:AltR O hi [] []:=⟨rfl,fun j e x h=>by simp at h⟩
theorem AltR.snoc {hi:Nat}{es:List TE}{fs:List Ty}{p:Option Nat}{x:Ty}(h:AltR O hi es fs)(t:Tr O hi x p):AltR O hi (es++[(wr x,p)]) (fs++[x]):=by
 refine ⟨by rw [List.length_append,List.length_append,h.1]; rfl,fun j e y h1 h2=>?_⟩
 by_cases hj:j<es.length
 ·rw [List.getElem?_append_left hj] at h1
  rw [List.getElem?_append_left (by rw [← h.1]; exact hj)] at h2
  exact h.2 j e y h1 h2
 ·rw [List.getElem?_append_right (by omega)] at h1
  rw [List.getElem?_append_right (by rw [← h.1]; omega),← h.1] at h2
  rcases hk:j - es.length with _ | k
  ·rw [hk] at h1 h2
   simp only [List.getElem?_cons_zero,Option.some.injEq] at h1 h2
   subst h1
   subst h2
   exact ⟨rfl,t⟩
  ·rw [hk] at h1
   simp at h1
theorem litT (e:TE):∀ h:AHeap,ze P h 75 1 [(0,.agg [.str e.1,pv e.2])]=some (.slc h.next 0 0 1 1,xi h 79 (tE e) false):=fun h=>by
 obtain ⟨w,p⟩:=e
 cases p <;> kernel_rfl
theorem bldT (e:TE):qR P 79 [(0,.str e.1),(1,pv e.2)]=some (.agg [.str e.1,pv e.2]):=by
 obtain ⟨w,p⟩:=e
 cases p <;> kernel_rfl
def Slg (s:AV):Prop:=∃ ri q o n t,s=.slg ri q o n t
theorem addT {lo:Nat}{es:List TE}{s:AV}(g:GV O 79 2 tE lo N es s)(hlo:lo≤N)(hn:es.length<1000000)(e:TE)(G:T (T AV)):∃ O1 O2 N2 s',ze P ⟨O,N,G⟩ 75 1 [(0,.agg [.str e.1,pv e.2])]=some (.slc N 0 0 1 1,⟨O1,N+1,G⟩)∧zh P ⟨O1,N+1,G⟩ .append (some 75) (some 75) [s,.slc N 0 0 1 1]=some (.val s' ⟨O2,N2,G⟩)∧GV O2 79 2 tE lo N2 (es++[e]) s'∧N≤N2∧Slg s'∧∀ j,j<lo→O2.get j=O.get j:=by
 obtain ⟨O1,e1,v1,_,f1⟩:=j8 tEn e O N G (st:=75) (el:=79) (litT e)
 have g1:=g.keep (O':=O1) (fun j _ hj=>f1 j (by omega)) (Nat.le_refl _) (Nat.le_succ N)
 obtain ⟨O2,N2,s',e2,g2,n2,m2,f2,h2,sl⟩:=g1.app2 tSl tEn v1 (by omega) (by simp only [List.length_cons,List.length_nil]; omega) G
 exact ⟨O1,O2,N2,s',e1,e2,g2,by omega,sl (by simp),fun j hj=>(f2 j (by omega) (fun h=>by have:=(g1.sid_lt h).1; omega)).trans (f1 j (by omega))⟩
theorem zfo {ts:List Ty}{i:Nat}{x:Ty}(h:ts[i]?=some x):(ts.take (i+1)).flatMap zJ=(ts.take i).flatMap zJ++zJ x:=by
 rw [List.take_add_one,h,List.flatMap_append]
 simp
theorem zm9 {α:Type}{ts:List α}{i:Nat}{x:α}(h:ts[i]?=some x):ts.take (i+1)=ts.take i++[x]:=by
 rw [List.take_add_one,h]
 rfl
theorem zjM:∀ {l:List Ty},(∀ x∈l,okT x=true)→l.length≤zag l
 | [],_=>Nat.zero_le _
 | x::l,h=>by
  rw [wM,List.length_cons]
  have:=zgi (h x (List.mem_cons_self ..))
  have:=zjM (l:=l) fun y hy=>h y (List.mem_cons_of_mem _ hy)
  omega
theorem zrP {ts:List Ty}{ps:List (Option Nat)}{sa:AV}{hi:Nat}(hs:SV O 1 pE 0 hi ps sa)(hl:ps.length=ts.length)(hm:ts.length<10000)(ht:∀ (j:Nat) (x:Ty) (p:Option Nat),ts[j]?=some x→ps[j]?=some p→Tr O hi x p)(hc:∀ x∈ts,okT x=true∧cnt x≤60)(hN:hi≤N){keep:Nat}{f0:FuncId}{Q:AV→AHeap→Prop}{rest:List AFrame}
 (hK:∀ O' N' td es s',Ext O N O' N'→GV O' 79 2 tE N N' es s'→(es≠[]→Slg s')→AltR O hi es (ts.flatMap zJ)→es.length≤60*ts.length→Goal P keep f0 Q (AM.mk (RF 67 45 (tX tZ (tY s')) td) rest ⟨O',N',G⟩)):Goal P keep f0 Q (AM.mk (enF 67 [sa]) rest ⟨O,N,G⟩):=by
 have loop:∀ (c i:Nat) (O2:T AObj) (N2:Nat) (es:List TE) (s:AV),i+c=ts.length→Ext O N O2 N2→GV O2 79 2 tE N N2 es s→(es≠[]→Slg s)→AltR O hi es ((ts.take i).flatMap zJ)→es.length≤60*i→Goal P keep f0 Q (zrq sa ((ps.length:Nat):Int) ((i:Nat):Int) s rest O2 N2 G):=by
  intro c
  induction c with
  | zero =>
   intro i O2 N2 es s hi' ex gv sl al le
   refine ot (zq4 (sl2:=s) (q:=0) (k2:=0) (sa2:=.nilp)) (fkf (decide_eq_false (by omega)) ?_)
   rw [List.take_of_length_le (by omega)] at al
   exact hK O2 N2 _ es s ex gv sl al (by omega)
  | succ c ih =>
   intro i O2 N2 es s hi' ex gv sl al le
   obtain ⟨x,hx,hxm⟩:=nth (l:=ts) (j:=i) (by omega)
   obtain ⟨p,hp,_⟩:=nth (l:=ps) (j:=i) (by omega)
   have tx:=ht i x p hx hp
   have tx2:=tx.ext ex hN
   have ok:=hc x hxm
   obtain ⟨i1,i2,i3,_,_,eA,rd,_⟩:=(hs.keep (O':=O2) (fun j _ hj=>ex.2 j (by omega)) (Nat.le_refl 0) (Nat.le_refl hi)).at pSl pEn hp
   cases x with
   | no=>have:=ok.1; rw [xY] at this; cases this
   | mk k nm ns aa r =>
    obtain ⟨id,sn,sb,pq,q,rfl,hid,hob0,hsn,hsa,hpl,hal,_,ha,_⟩:=tx.inv
    have hob:=hob0.same (ex.2 id (by omega))
    refine ot (zq4 (sl2:=s) (q:=id) (k2:=k) (sa2:=sb)) (fkt (decide_eq_true (by omega)) ?_)
    refine ⟨i1,i2,i3,eA,rd.load rfl _ _,hob.ld 0 rfl,fun hk=>?_,fun hk=>?_⟩
    ·have hk9:¬ k=9:=by simpa using hk
     have fl:zJ (.mk k nm ns aa r)=[.mk k nm ns aa r]:=if_neg (show ¬ kd (.mk k nm ns aa r)=9 from hk9)
     refine zgD ok.1 ok.2 keep f0 Q hi (some id) _ O2 N2 tx2 (Nat.le_trans hN ex.1) fun O3 N3 td3 ex3=>?_
     have g3:=gv.keep (O':=O3) (fun j _ hj=>ex3.2 j hj) (Nat.le_refl _) ex3.1
     have n3:=ex3.1
     obtain ⟨O4,O5,N5,s5,e4,e5,g5,n5,sl5,f5⟩:=addT g3 (by have:=ex.1; omega) (by omega) (wr (.mk k nm ns aa r),some id) G
     refine ot ziZ ⟨O4,s5,O5,N5,e4,e5,?_⟩
     have nx:=ih (i+1) O5 N5 _ s5 (by omega) ⟨by have:=ex.1; omega,fun j hj=>(f5 j hj).trans ((ex3.2 j (by have:=ex.1; omega)).trans (ex.2 j hj))⟩ g5 (fun _=>sl5) (by rw [zfo hx,fl]; exact al.snoc tx) (by rw [List.length_append]; simp only [List.length_cons,List.length_nil]; omega)
     rw [← zq (i:=i) (by omega)] at nx
     exact nx
    ·have hk9:k=9:=by simpa using hk
     have fl:zJ (.mk k nm ns aa r)=aa:=if_pos (show kd (.mk k nm ns aa r)=9 from hk9)
     have hal60:aa.length+1≤60:=by
      have h1:=zjM (l:=aa) (xH ok.1).2.1
      have h2:=ok.2
      rw [xo] at h2
      omega
     have oka:∀ y∈aa,okT y=true∧cnt y≤60:=fun y hy=>za5 ok (by rw [fl]; exact hy)
     have hsa2:=hsa.keep (O':=O2) (fun j _ hj=>ex.2 j (by omega)) (Nat.le_refl 0) (Nat.le_refl hi)
     refine ⟨_,hob.ld 3 rfl,hsa2.len pSl _ _,?_⟩
     have inner:∀ (c2 k2:Nat) (O3:T AObj) (N3:Nat) (es3:List TE) (s3:AV),k2+c2=aa.length→Ext O N O3 N3→GV O3 79 2 tE N N3 es3 s3→(es3≠[]→Slg s3)→AltR O hi es3 ((ts.take i).flatMap zJ++aa.take k2)→es3.length≤60*i+k2→Goal P keep f0 Q (Walu sa sb ((ps.length:Nat):Int) ((i:Nat):Int) ((k2:Nat):Int) ((pq.length:Nat):Int) s3 rest O3 N3 G):=by
      intro c2
      induction c2 with
      | zero =>
       intro k2 O3 N3 es3 s3 hc2 ex03 gv3 sl3 al3 le3
       refine ot zqM (fkf (decide_eq_false (by omega)) ?_)
       have e0:aa.take k2=aa:=List.take_of_length_le (by omega)
       rw [e0] at al3
       have nx:=ih (i+1) O3 N3 es3 s3 (by omega) ex03 gv3 sl3 (by rw [zfo hx,fl]; exact al3) (by omega)
       rw [← zq (i:=i) (by omega)] at nx
       exact nx
      | succ c2 ih2 =>
       intro k2 O3 N3 es3 s3 hc2 ex03 gv3 sl3 al3 le3
       obtain ⟨y,hy,hym⟩:=nth (l:=aa) (j:=k2) (by omega)
       obtain ⟨py,hpy,_⟩:=nth (l:=pq) (j:=k2) (by omega)
       have n03:=ex03.1
       have ty0:=ha k2 y py hy hpy
       have ty3:=ty0.ext ex03 hN
       obtain ⟨d1,d2,d3,_,_,eD,rD,_⟩:=(hsa.keep (O':=O3) (fun j _ hj=>ex03.2 j (by omega)) (Nat.le_refl 0) (Nat.le_refl hi)).at pSl pEn hpy
       refine ot zqM (fkt (decide_eq_true (by omega)) ⟨d1,d2,d3,_,eD,rD.load rfl _ _,?_⟩)
       refine zgD (oka y hym).1 (oka y hym).2 keep f0 Q hi py _ O3 N3 ty3 (by omega) fun O4 N4 td4 ex4=>?_
       have n4:=ex4.1
       have g4:=gv3.keep (O':=O4) (fun j _ hj=>ex4.2 j hj) (Nat.le_refl _) ex4.1
       obtain ⟨O5,O6,N6,s6,e5,e6,g6,n6,sl6,f6⟩:=addT g4 (by omega) (by omega) (wr y,py) G
       refine ot zlX ⟨O5,s6,O6,N6,bldT (wr y,py),e5,e6,?_⟩
       have w1:IntKind.i64.wrap (((k2:Nat):Int)+(1:Int))=((k2+1:Nat):Int):=zq (by omega)
       rw [w1]
       exact ih2 (k2+1) O6 N6 _ s6 (by omega) ⟨by omega,fun j hj=>(f6 j hj).trans ((ex4.2 j (by omega)).trans (ex03.2 j hj))⟩ g6 (fun _=>sl6) (by rw [zm9 hy,← List.append_assoc]; exact al3.snoc ty0) (by rw [List.length_append]; simp only [List.length_cons,List.length_nil]; omega)
     exact inner aa.length 0 O2 N2 es s (by omega) ex gv sl (by rw [List.take_zero,List.append_nil]; exact al) (by omega)
 exact ot t_alt ⟨_,hs.len pSl _ _,loop ts.length 0 O N [] (.nils 0 0) (Nat.zero_add _) Ext.refl GV.nil (fun h=>absurd rfl h) AltR.nil (Nat.zero_le _)⟩
end Go.Proofs.Ytcdigdplhlgcaaa.gx
end
