import Derived.Test.YtcdigdplhlgcaaaB00
import Derived.Test.YtcdigdplhlgcaaaB01
import Derived.Test.YtcdigdplhlgcaaaB02
import Derived.Test.YtcdigdplhlgcaaaB03
import Derived.Test.YtcdigdplhlgcaaaB04
import Derived.Test.YtcdigdplhlgcaaaB05
section
set_option maxRecDepth 100000
set_option linter.unusedVariables false
set_option linter.unusedSectionVars false
set_option linter.unusedSimpArgs false
namespace Go.Proofs.Ytcdigdplhlgcaaa.gx
open Go Ev tp
section
variable (sa:AV) (n j:Int) (s1 so:AV) (rest:List AFrame) (O:T AObj) (N:Nat) (G:T (T AV)) (pp:AV)
noncomputable def Wtxs:AM:=⟨⟨89,19,(tX (tX (tW (tY (.int .i64 n)) so tZ) tZ) (tX (tX (tY (.int .i64 j)) tZ) (tY sa))),   [.code (cd P 89 [1,1,0,1,0,0]),.inLoop (cd P 89 [1,1,0,1,0,0]),.inBlock 0,.code (cd P 89 [1,1,1])],[],.run,CallKind.normal,none⟩,rest,⟨O,N,G⟩⟩
noncomputable def znD:AFrame:=⟨89,19,(tX (tX (tX (tY (.int .i64 n)) tZ) (tX tZ (tY s1))) (tX (tX (tY (.int .i64 j)) (tY so)) (tY sa))),   [.ops (rg P 89 [1,1,0,1,0,0,1,1,0,0,1]).toList ((rg P 89 [1,1,0,1,0,0,1,1,0,0,1]).toList.drop 2),.inBlock 1,.code (cd P 89 [1,1,0,1,0,0,1,1,1]),.inLoop (cd P (89:FuncId) [1,1,0,1,0,0]),.inBlock 0,.code (cd P (89:FuncId) [1,1,1])],[],.run,CallKind.normal,none⟩
noncomputable def zqB:AFrame:=⟨85,10,(tX (tX tZ (tY (.bool false))) (tX tZ (tY pp))),   [.ops (rg P 85 [1,0]).toList ((rg P 85 [1,0]).toList.drop 4),.code (cd P 85 [1,1])],[],.run,CallKind.normal,none⟩
noncomputable def Wsta:AM:=⟨⟨55,17,(tX (tW (tX (tY sa) tZ) (.fn (Fn.func (85:FuncId)) [] []) (tX (tY (.int .i64 j)) tZ)) (tX (tX (tY (.int .i64 n)) tZ) tZ)),   [.code (cd P 55 [1,0,1,0,0]),.inLoop (cd P 55 [1,0,1,0,0]),.inBlock 0,.code (cd P 55 [1,1])],[],.run,CallKind.normal,none⟩,rest,⟨O,N,G⟩⟩
noncomputable def znU:AFrame:=⟨55,17,(tX (tW (tX (tY sa) tZ) (.fn (Fn.func (85:FuncId)) [] []) (tX (tY (.int .i64 j)) (tY (.fn (Fn.func (85:FuncId)) [] [])))) (tX (tX (tY (.int .i64 n)) tZ) (tX tZ (tY s1)))),   [.ops (rg P 55 [1,0,1,0,0,1,1,0,0,1,0]).toList ((rg P 55 [1,0,1,0,0,1,1,0,0,1,0]).toList.drop 2),.code (cd P 55 [1,0,1,0,0,1,1,0,0,1,1]),.inBlock 1,.code (cd P 55 [1,0,1,0,0,1,1,1]),.inLoop (cd P (55:FuncId) [1,0,1,0,0]),.inBlock 0,.code (cd P (55:FuncId) [1,1])],[],.run,CallKind.normal,none⟩
noncomputable def Wstb:AM:=⟨⟨55,17,(tX (tW (tX (tY sa) tZ) (.fn (Fn.func (88:FuncId)) [] []) (tX (tY (.int .i64 j)) tZ)) (tX (tX (tY (.int .i64 n)) tZ) tZ)),   [.code (cd P 55 [1,0,1,0,0]),.inLoop (cd P 55 [1,0,1,0,0]),.inBlock 0,.code (cd P 55 [1,1])],[],.run,CallKind.normal,none⟩,rest,⟨O,N,G⟩⟩
noncomputable def zm6:AFrame:=⟨55,17,(tX (tW (tX (tY sa) tZ) (.fn (Fn.func (88:FuncId)) [] []) (tX (tY (.int .i64 j)) (tY (.fn (Fn.func (88:FuncId)) [] [])))) (tX (tX (tY (.int .i64 n)) tZ) (tX tZ (tY s1)))),   [.ops (rg P 55 [1,0,1,0,0,1,1,0,0,1,0]).toList ((rg P 55 [1,0,1,0,0,1,1,0,0,1,0]).toList.drop 2),.code (cd P 55 [1,0,1,0,0,1,1,0,0,1,1]),.inBlock 1,.code (cd P 55 [1,0,1,0,0,1,1,1]),.inLoop (cd P (55:FuncId) [1,0,1,0,0]),.inBlock 0,.code (cd P (55:FuncId) [1,1])],[],.run,CallKind.normal,none⟩
end
section
variable {R:AV→AHeap→Prop} {keep N p:Nat} {f0:FuncId} {rest:List AFrame} {O:T AObj} {sa so s1c pp:AV} {G:T (T AV)} {K:AM→Prop} {n j k:Int} {td:List AItem} {wa:List UInt8} {bv:Bool}
theorem t_txs:(∃ (z1:Int),(lN O N G 33 sa z1)∧K (Wtxs sa z1 0 (.nils 0 0) rest O N G))=OT f0 R keep K (.ex fun z1:Int=>(.seq [.run 12,.hopn (.int .i64 z1) O (N),.run 4,.keep [3,6,7,8]] .fin)) ((AM.mk (enF 89 [sa]) rest ⟨O,N,G⟩)):=by kernel_rfl
theorem zok:(((decide (j<n))=true→(∃ (i1:Nat) (i2:Nat) (i3:Nat) (s1:AV),(iX 33 sa j i1 i2 i3)∧(lR O N G i1 i2 i3 s1)∧K (AM.mk (enF 47 [s1]) ((znD sa n j s1 so)::rest) ⟨O,N,G⟩)))∧((decide (j<n))=false→(K (AM.mk (RF 89 19 (tX tZ (tY so)) [.code (cd P 89 [1,1,1,1])]) rest ⟨O,N,G⟩))))=OT f0 R keep K (.seq [.run 5] (.fork 9 (.ex fun i1:Nat=>(.ex fun i2:Nat=>(.ex fun i3:Nat=>(.ex fun s1:AV=>(.seq [.run 6,.hopn (.ptr i1 i2 i3) O (N),.hop (s1) O,.run 5,.keep [6,7,8,12,13],.run 1] .fin))))) (.seq [.run 8,.keep [2]] .fin))) ((Wtxs sa n j so rest O N G)):=by kernel_rfl
theorem ziV:(∃ (O1:T AObj) (s1:AV) (O2:T AObj) (N1:Nat),(zd P (⟨O,N,G⟩) (32) (1) ([(0,.str wa)])=(some (.slc N 0 0 1 1,⟨O1,N+1,G⟩)))∧(zf P (⟨O1,N+1,G⟩) (Builtin.append) ((some 32)) ((some 32)) ([so,.slc N 0 0 1 1])=(some (.val s1 ⟨O2,N1,G⟩)))∧K (Wtxs sa n (IntKind.i64.wrap (j+(1:Int))) s1 rest O2 N1 G))=OT f0 R keep K (.ex fun O1:T AObj=>(.ex fun s1:AV=>(.ex fun O2:T AObj=>(.ex fun N1:Nat=>(.seq [.run 1,.hopn (.slc N 0 0 1 1) O1 (N+1),.hopn (s1) O2 (N1),.run 8,.keep [3,6,7,8]] .fin))))) ((AM.mk (RF 47 12 (tX tZ (tY (.str wa))) td) ((znD sa n j s1c so)::rest) ⟨O,N,G⟩)):=by kernel_rfl
theorem zrd:(∃ (b1:Bool),(w5 P (⟨O,N,G⟩) (BinOp.eql) (23) (true) (pp) (.nilp)=(some (.bool b1)))∧((b1)=true→(K (AM.mk (RF 85 10 (tX tZ (tY (.bool true))) [.code (cd P 85 [1,1])]) rest ⟨O,N,G⟩)))∧((b1)=false→(K (AM.mk (enF 42 [pp]) ((zqB pp)::rest) ⟨O,N,G⟩))))=OT f0 R keep K (.ex fun b1:Bool=>(.seq [.run 7,.hop (.bool b1) O,.run 1] (.fork 5 (.seq [.run 7,.keep [2]] .fin) (.seq [.run 1,.keep [5,6],.run 1] .fin)))) ((AM.mk (enF 85 [pp]) rest ⟨O,N,G⟩)):=by kernel_rfl
theorem zlU:(K (AM.mk (RF 85 10 (tX tZ (tY (.bool !bv))) [.code (cd P (85:FuncId) [1,1])]) rest ⟨O,N,G⟩))=OT f0 R keep K (.seq [.run 6,.keep [2]] .fin) ((AM.mk (RF 42 95 (tX tZ (tY (.bool bv))) td) ((zqB pp)::rest) ⟨O,N,G⟩)):=by kernel_rfl
theorem zqr:((lC O N G p 0 (.int .i64 k))∧(((k==(9:Int)))=true→(K (AM.mk (RF 88 15 (tX tZ (tY (.bool true))) [.code (cd P 88 [1,1])]) rest ⟨O,N,G⟩)))∧(((k==(9:Int)))=false→((lC O N G p 0 (.int .i64 k))∧K (AM.mk (RF 88 15 (tX tZ (tY (.bool (k==(1:Int))))) [.code (cd P 88 [1,1])]) rest ⟨O,N,G⟩))))=OT f0 R keep K (.seq [.run 9,.hop (.int .i64 k) O,.run 2] (.fork 8 (.seq [.run 9,.keep [2]] .fin) (.seq [.run 3,.hop (.int .i64 k) O,.run 5,.keep [2]] .fin))) ((AM.mk (enF 88 [.ptr p 0 0]) rest ⟨O,N,G⟩)):=by kernel_rfl
theorem t_sta:(∃ (z1:Int),(lN O N G 33 sa z1)∧K (Wsta sa z1 0 rest O N G))=OT f0 R keep K (.ex fun z1:Int=>(.seq [.run 8,.hopn (.int .i64 z1) O (N),.run 4,.keep [1,7,8,9]] .fin)) ((AM.mk (enF 55 [sa,.fn (.func 85) [] []]) rest ⟨O,N,G⟩)):=by kernel_rfl
theorem zot:(((decide (j<n))=true→(∃ (i1:Nat) (i2:Nat) (i3:Nat) (s1:AV),(iX 33 sa j i1 i2 i3)∧(lR O N G i1 i2 i3 s1)∧K (AM.mk (enF 85 [s1]) ((znU sa n j s1)::rest) ⟨O,N,G⟩)))∧((decide (j<n))=false→(K (AM.mk (RF 55 17 (tX tZ (tX (tY (.bool false)) tZ)) [.code (cd P 55 [1,0,1,0,0,1,1,0,0,1,1,0,1])]) rest ⟨O,N,G⟩))))=OT f0 R keep K (.seq [.run 5] (.fork 10 (.ex fun i1:Nat=>(.ex fun i2:Nat=>(.ex fun i3:Nat=>(.ex fun s1:AV=>(.seq [.run 6,.hopn (.ptr i1 i2 i3) O (N),.hop (s1) O,.run 6,.keep [1,7,8,9,13,14],.run 1] .fin))))) (.seq [.run 7,.keep [4]] .fin))) ((Wsta sa n j rest O N G)):=by kernel_rfl
theorem zco:(((bv)=true→(K (AM.mk (RF 55 17 (tX tZ (tX (tY (.bool true)) tZ)) [.code (cd P 85 [1,1]),.inBlock 1,.code (cd P (55:FuncId) [1,0,1,0,0,1,1,1]),.inLoop (cd P (55:FuncId) [1,0,1,0,0]),.inBlock 0,.code (cd P (55:FuncId) [1,1])]) rest ⟨O,N,G⟩)))∧((bv)=false→(K (Wsta sa n (IntKind.i64.wrap (j+(1:Int))) rest O N G))))=OT f0 R keep K (.seq [.run 2] (.fork 15 (.seq [.run 6,.keep [4]] .fin) (.seq [.run 8,.keep [1,7,8,9]] .fin))) ((AM.mk (RF 85 10 (tX tZ (tY (.bool bv))) td) ((znU sa n j s1c)::rest) ⟨O,N,G⟩)):=by kernel_rfl
theorem t_stb:(∃ (z1:Int),(lN O N G 33 sa z1)∧K (Wstb sa z1 0 rest O N G))=OT f0 R keep K (.ex fun z1:Int=>(.seq [.run 8,.hopn (.int .i64 z1) O (N),.run 4,.keep [1,7,8,9]] .fin)) ((AM.mk (enF 55 [sa,.fn (.func 88) [] []]) rest ⟨O,N,G⟩)):=by kernel_rfl
theorem zn7:(((decide (j<n))=true→(∃ (i1:Nat) (i2:Nat) (i3:Nat) (s1:AV),(iX 33 sa j i1 i2 i3)∧(lR O N G i1 i2 i3 s1)∧K (AM.mk (enF 88 [s1]) ((zm6 sa n j s1)::rest) ⟨O,N,G⟩)))∧((decide (j<n))=false→(K (AM.mk (RF 55 17 (tX tZ (tX (tY (.bool false)) tZ)) [.code (cd P 55 [1,0,1,0,0,1,1,0,0,1,1,0,1])]) rest ⟨O,N,G⟩))))=OT f0 R keep K (.seq [.run 5] (.fork 10 (.ex fun i1:Nat=>(.ex fun i2:Nat=>(.ex fun i3:Nat=>(.ex fun s1:AV=>(.seq [.run 6,.hopn (.ptr i1 i2 i3) O (N),.hop (s1) O,.run 6,.keep [1,7,8,9,13,14],.run 1] .fin))))) (.seq [.run 7,.keep [4]] .fin))) ((Wstb sa n j rest O N G)):=by kernel_rfl
theorem zcT:(((bv)=true→(K (AM.mk (RF 55 17 (tX tZ (tX (tY (.bool true)) tZ)) [.code (cd P 88 [1,1]),.inBlock 1,.code (cd P (55:FuncId) [1,0,1,0,0,1,1,1]),.inLoop (cd P (55:FuncId) [1,0,1,0,0]),.inBlock 0,.code (cd P (55:FuncId) [1,1])]) rest ⟨O,N,G⟩)))∧((bv)=false→(K (Wstb sa n (IntKind.i64.wrap (j+(1:Int))) rest O N G))))=OT f0 R keep K (.seq [.run 2] (.fork 15 (.seq [.run 6,.keep [4]] .fin) (.seq [.run 8,.keep [1,7,8,9]] .fin))) ((AM.mk (RF 88 15 (tX tZ (tY (.bool bv))) td) ((zm6 sa n j s1c)::rest) ⟨O,N,G⟩)):=by kernel_rfl
end
variable {O O':T AObj} {N:Nat} {G:T (T AV)}
theorem zrr {r:Ty}{q:Option Nat}{hi:Nat}(h:Tr O hi r q)(N:Nat):w5 P ⟨O,N,G⟩ BinOp.eql 23 true (pv q) .nilp=some (.bool (isNo r)):=by
 cases h with
 | no=>rfl
 | mk=>rfl
theorem zqD {ts:List Ty}{ps:List (Option Nat)}{sa:AV}{hi:Nat}(hs:SV O 1 pE 0 hi ps sa)(hl:ps.length=ts.length)(hm:ts.length<1000000)(ht:∀ (j:Nat) (x:Ty) (p:Option Nat),ts[j]?=some x→ps[j]?=some p→Tr O hi x p)(ho:∀ x∈ts,okT x=true∧cnt x≤60)(hN:hi≤N){keep:Nat}{f0:FuncId}{Q:AV→AHeap→Prop}{rest:List AFrame}
 (hK:∀ O' N' td s,Ext O N O' N'→GV O' 9 1 sE N N' (ts.map wr) s→Goal P keep f0 Q (AM.mk (RF 89 19 (tX tZ (tY s)) td) rest ⟨O',N',G⟩)):Goal P keep f0 Q (AM.mk (enF 89 [sa]) rest ⟨O,N,G⟩):=by
 have loop:∀ (k' i:Nat) (O2:T AObj) (N2:Nat) (s:AV),i+k'=ts.length→Ext O N O2 N2→GV O2 9 1 sE N N2 ((ts.take i).map wr) s→Goal P keep f0 Q (Wtxs sa ((ts.length:Nat):Int) ((i:Nat):Int) s rest O2 N2 G):=by
  intro k'
  induction k' with
  | zero =>
   intro i O2 N2 s hk ex g
   rw [List.take_of_length_le (by omega)] at g
   exact (ot (zok (n:=((ts.length:Nat):Int)) (j:=((i:Nat):Int))) (fkf (decide_eq_false (by omega)) (hK O2 N2 _ s ex g)))
  | succ k' ih =>
   intro i O2 N2 s hk ex g
   have exle:=ex.1
   have sO2:=hs.keep (O':=O2) (fun j _ hj=>ex.2 j (by omega)) (Nat.le_refl 0) (Nat.le_refl hi)
   obtain ⟨x,hx,hxm⟩:=nth (l:=ts) (j:=i) (by omega)
   obtain ⟨y,hy',_⟩:=nth (l:=ps) (j:=i) (by omega)
   obtain ⟨i1,i2,i3,lo1,hi1,eA,rd,_⟩:=sO2.at pSl pEn hy'
   refine (ot (zok (n:=((ts.length:Nat):Int)) (j:=((i:Nat):Int))) (fkt (decide_eq_true (by omega)) ⟨_,_,_,(pv y),eA,rd.load rfl _ _,?_⟩))
   refine zpr (ho x hxm).1 (ho x hxm).2 keep f0 Q hi y _ O2 N2 ((ht i x y hx hy').same (fun j hj=>ex.2 j (by omega)) (Nat.le_refl _)) (by omega) fun O3 N3 td ex3=>?_
   have n3:=ex3.1
   obtain ⟨O4,e4,sv4,gv4,f4⟩:=qi sEn (wr x) O3 N3 G (st:=32) (el:=9) (v:=.str (wr x)) (fun h=>by kernel_rfl)
   have g3:=g.keep (O':=O4) (fun j h1 h2=>(f4 j (by omega)).trans (ex3.2 j h2)) (Nat.le_refl N) (show N2≤N3+1 by omega)
   obtain ⟨O5,N5,s5,e5,g5,n5,n5',fr5,_⟩:=g3.app sSl sEn sv4 (by omega) (by rw [List.length_map,List.length_take]; simp only [List.length_cons,List.length_nil]; omega) G
   have ex5:Ext O N O5 N5:=⟨by omega,fun j hj=>(fr5 j (by omega) (fun hne=>by have:=(g3.sid_lt hne).1; omega)).trans ((f4 j (by omega)).trans ((ex3.2 j (by omega)).trans (ex.2 j hj)))⟩
   have g6:GV O5 9 1 sE N N5 ((ts.take (i+1)).map wr) s5:=by
    rw [List.take_add_one,hx,List.map_append]
    exact g5
   have nx:=ih (i+1) O5 N5 s5 (by omega) ex5 g6
   rw [← zx (i:=i) (by omega)] at nx
   exact (ot (ziV (n:=((ts.length:Nat):Int)) (j:=((i:Nat):Int)) (s1c:=(pv y)) (wa:=(wr x))) ⟨O4,s5,O5,N5,e4,e5,nx⟩)
 refine (ot t_txs ⟨((ts.length:Nat):Int),by rw [← hl]; exact hs.len pSl _ _,?_⟩)
 exact loop ts.length 0 O N (.nils 0 0) (Nat.zero_add _) Ext.refl GV.nil
def FC (G:T (T AV)) (t:Ty):Prop:=∀ (keep:Nat) (f0:FuncId) (Q:AV→AHeap→Prop) (hi:Nat) (p:Option Nat) (rest:List AFrame) (O:T AObj) (N:Nat),Tr O hi t p→hi≤N →
 (∀ O' N' td,Ext O N O' N'→Goal P keep f0 Q (AM.mk (RF 42 95 (tX tZ (tY (.bool (okT t)))) td) rest ⟨O',N',G⟩))→Goal P keep f0 Q (AM.mk (enF 42 [pv p]) rest ⟨O,N,G⟩)
theorem zoq {x:Ty}{y:Option Nat}{hi:Nat}(F:isNo x=false→FC G x)(ht:Tr O hi x y)(hN:hi≤N){keep:Nat}{f0:FuncId}{Q:AV→AHeap→Prop}{rest:List AFrame}
 (hK:∀ O' N' td,Ext O N O' N'→Goal P keep f0 Q (AM.mk (RF 85 10 (tX tZ (tY (.bool (!okT x)))) td) rest ⟨O',N',G⟩)):Goal P keep f0 Q (AM.mk (enF 85 [pv y]) rest ⟨O,N,G⟩):=by
 rcases Bool.eq_false_or_eq_true (isNo x) with h | h
 · rw [show okT x=false from by cases x with
    | no=>exact ye
    | mk=>cases h] at hK
   exact (ot (zrd (pp:=(pv y))) ⟨(isNo x),zrr ht _,fkt h (hK O N _ Ext.refl)⟩)
 · refine (ot (zrd (pp:=(pv y))) ⟨(isNo x),zrr ht _,fkf h ?_⟩)
   refine F h keep f0 Q hi y _ O N ht hN fun O' N' td ex=>?_
   exact (ot (zlU (bv:=(okT x)) (pp:=(pv y))) (hK O' N' _ ex))
theorem zqF {ts:List Ty}{ps:List (Option Nat)}{sa:AV}{hi:Nat}(hs:SV O 1 pE 0 hi ps sa)(hl:ps.length=ts.length)(hm:ts.length<1000000)(ht:∀ (j:Nat) (x:Ty) (p:Option Nat),ts[j]?=some x→ps[j]?=some p→Tr O hi x p)(F:∀ x∈ts,isNo x=false→FC G x)(hN:hi≤N){keep:Nat}{f0:FuncId}{Q:AV→AHeap→Prop}{rest:List AFrame}
 (hK:∀ O' N' td,Ext O N O' N'→Goal P keep f0 Q (AM.mk (RF 55 17 (tX tZ (tX (tY (.bool (ts.any (fun x=>!okT x)))) tZ)) td) rest ⟨O',N',G⟩)):Goal P keep f0 Q (AM.mk (enF 55 [sa,.fn (.func 85) [] []]) rest ⟨O,N,G⟩):=by
 have loop:∀ (k' i:Nat) (O2:T AObj) (N2:Nat),i+k'=ts.length→Ext O N O2 N2→ts.any (fun x=>!okT x)=(ts.drop i).any (fun x=>!okT x)→Goal P keep f0 Q (Wsta sa ((ts.length:Nat):Int) ((i:Nat):Int) rest O2 N2 G):=by
  intro k'
  induction k' with
  | zero =>
   intro i O2 N2 hk ex hv
   rw [hv,List.drop_of_length_le (by omega)] at hK
   exact (ot (zot (n:=((ts.length:Nat):Int)) (j:=((i:Nat):Int))) (fkf (decide_eq_false (by omega)) (hK O2 N2 _ ex)))
  | succ k' ih =>
   intro i O2 N2 hk ex hv
   have exle:=ex.1
   have sO2:=hs.keep (O':=O2) (fun j _ hj=>ex.2 j (by omega)) (Nat.le_refl 0) (Nat.le_refl hi)
   obtain ⟨x,hx,hxm⟩:=nth (l:=ts) (j:=i) (by omega)
   obtain ⟨y,hy',_⟩:=nth (l:=ps) (j:=i) (by omega)
   obtain ⟨i1,i2,i3,lo1,hi1,eA,rd,_⟩:=sO2.at pSl pEn hy'
   rw [zk hx,List.any_cons] at hv
   have tx:=(ht i x y hx hy').same (O':=O2) (fun j hj=>ex.2 j (by omega)) (Nat.le_refl _)
   refine (ot (zot (n:=((ts.length:Nat):Int)) (j:=((i:Nat):Int))) (fkt (decide_eq_true (by omega)) ⟨_,_,_,(pv y),eA,rd.load rfl _ _,?_⟩))
   refine zoq (F x hxm) tx (by omega) fun O3 N3 td ex3=>?_
   rcases Bool.eq_false_or_eq_true (!okT x) with hb | hb
   · rw [hb,Bool.true_or] at hv
     rw [hv] at hK
     exact (ot (zco (n:=((ts.length:Nat):Int)) (j:=((i:Nat):Int)) (bv:=(!okT x)) (s1c:=(pv y))) (fkt hb (hK O3 N3 _ (ex.trans ex3))))
   · rw [hb,Bool.false_or] at hv
     have nx:=ih (i+1) O3 N3 (by omega) (ex.trans ex3) hv
     rw [← zx (i:=i) (by omega)] at nx
     exact (ot (zco (n:=((ts.length:Nat):Int)) (j:=((i:Nat):Int)) (bv:=(!okT x)) (s1c:=(pv y))) (fkf hb nx))
 refine (ot t_sta ⟨((ts.length:Nat):Int),by rw [← hl]; exact hs.len pSl _ _,?_⟩)
 exact loop ts.length 0 O N (Nat.zero_add _) Ext.refl (by rw [List.drop_zero])
theorem zp8 {x:Ty}{y:Option Nat}{hi:Nat}(ho:okT x=true)(ht:Tr O hi x y){keep:Nat}{f0:FuncId}{Q:AV→AHeap→Prop}{rest:List AFrame}
 (hK:∀ td,Goal P keep f0 Q (AM.mk (RF 88 15 (tX tZ (tY (.bool (kd x==9 || kd x==1)))) td) rest ⟨O,N,G⟩)):Goal P keep f0 Q (AM.mk (enF 88 [pv y]) rest ⟨O,N,G⟩):=by
 cases x with
 | no=>rw [ye] at ho; cases ho
 | mk k nm ns ts r =>
  obtain ⟨id,sn,sa,ps,q,rfl,i1',i2',_⟩:=ht.inv
  have hK:∀ td,Goal P keep f0 Q (AM.mk (RF 88 15 (tX tZ (tY (.bool (k==9 || k==1)))) td) rest ⟨O,N,G⟩):=hK
  rcases Bool.eq_false_or_eq_true (k==9) with h | h
  · rw [h,Bool.true_or] at hK
    exact (ot (zqr (k:=k)) ⟨i2'.ld 0 rfl,fkt h (hK _)⟩)
  · rw [h,Bool.false_or] at hK
    exact (ot (zqr (k:=k)) ⟨i2'.ld 0 rfl,fkf h ⟨i2'.ld 0 rfl,hK _⟩⟩)
theorem zqs {ts:List Ty}{ps:List (Option Nat)}{sa:AV}{hi:Nat}(hs:SV O 1 pE 0 hi ps sa)(hl:ps.length=ts.length)(hm:ts.length<1000000)(ht:∀ (j:Nat) (x:Ty) (p:Option Nat),ts[j]?=some x→ps[j]?=some p→Tr O hi x p)(ho:∀ x∈ts,okT x=true)(hN:hi≤N){keep:Nat}{f0:FuncId}{Q:AV→AHeap→Prop}{rest:List AFrame}
 (hK:∀ O' N' td,Ext O N O' N'→Goal P keep f0 Q (AM.mk (RF 55 17 (tX tZ (tX (tY (.bool (ts.any (fun x=>kd x==9 || kd x==1)))) tZ)) td) rest ⟨O',N',G⟩)):Goal P keep f0 Q (AM.mk (enF 55 [sa,.fn (.func 88) [] []]) rest ⟨O,N,G⟩):=by
 have loop:∀ (k' i:Nat) (O2:T AObj) (N2:Nat),i+k'=ts.length→Ext O N O2 N2→ts.any (fun x=>kd x==9 || kd x==1)=(ts.drop i).any (fun x=>kd x==9 || kd x==1)→Goal P keep f0 Q (Wstb sa ((ts.length:Nat):Int) ((i:Nat):Int) rest O2 N2 G):=by
  intro k'
  induction k' with
  | zero =>
   intro i O2 N2 hk ex hv
   rw [hv,List.drop_of_length_le (by omega)] at hK
   exact (ot (zn7 (n:=((ts.length:Nat):Int)) (j:=((i:Nat):Int))) (fkf (decide_eq_false (by omega)) (hK O2 N2 _ ex)))
  | succ k' ih =>
   intro i O2 N2 hk ex hv
   have exle:=ex.1
   have sO2:=hs.keep (O':=O2) (fun j _ hj=>ex.2 j (by omega)) (Nat.le_refl 0) (Nat.le_refl hi)
   obtain ⟨x,hx,hxm⟩:=nth (l:=ts) (j:=i) (by omega)
   obtain ⟨y,hy',_⟩:=nth (l:=ps) (j:=i) (by omega)
   obtain ⟨i1,i2,i3,lo1,hi1,eA,rd,_⟩:=sO2.at pSl pEn hy'
   rw [zk hx,List.any_cons] at hv
   have tx:=(ht i x y hx hy').same (O':=O2) (fun j hj=>ex.2 j (by omega)) (Nat.le_refl _)
   refine (ot (zn7 (n:=((ts.length:Nat):Int)) (j:=((i:Nat):Int))) (fkt (decide_eq_true (by omega)) ⟨_,_,_,(pv y),eA,rd.load rfl _ _,?_⟩))
   refine zp8 (ho x hxm) tx fun td=>?_
   have ex3:Ext O2 N2 O2 N2:=Ext.refl
   obtain ⟨O3,hO3⟩:∃ O3,O3=O2:=⟨_,rfl⟩
   obtain ⟨N3,hN3⟩:∃ N3,N3=N2:=⟨_,rfl⟩
   rw [← hO3,← hN3] at ex3 ⊢
   subst hO3
   subst hN3
   rcases Bool.eq_false_or_eq_true (kd x==9 || kd x==1) with hb | hb
   · rw [hb,Bool.true_or] at hv
     rw [hv] at hK
     exact (ot (zcT (n:=((ts.length:Nat):Int)) (j:=((i:Nat):Int)) (bv:=(kd x==9 || kd x==1)) (s1c:=(pv y))) (fkt hb (hK O3 N3 _ (ex.trans ex3))))
   · rw [hb,Bool.false_or] at hv
     have nx:=ih (i+1) O3 N3 (by omega) (ex.trans ex3) hv
     rw [← zx (i:=i) (by omega)] at nx
     exact (ot (zcT (n:=((ts.length:Nat):Int)) (j:=((i:Nat):Int)) (bv:=(kd x==9 || kd x==1)) (s1c:=(pv y))) (fkf hb nx))
 refine (ot t_stb ⟨((ts.length:Nat):Int),by rw [← hl]; exact hs.len pSl _ _,?_⟩)
 exact loop ts.length 0 O N (Nat.zero_add _) Ext.refl (by rw [List.drop_zero])
end Go.Proofs.Ytcdigdplhlgcaaa.gx
end
section
set_option maxRecDepth 100000
set_option linter.unusedVariables false
set_option linter.unusedSectionVars false
set_option linter.unusedSimpArgs false
namespace Go.Proofs.Ytcdigdplhlgcaaa.gx
open Go Ev tp
section
variable (p:Nat) (nm:List UInt8) (k:Int) (sn sa rp:AV) (z1 z2:Int) (b1:Bool) (z1c:Int) (br1 br2 b1c:Bool) (z2c:Int) (sn2:AV)
noncomputable def Ffrm:AFrame:=⟨42,95,(tW (tX (tY (.fn (Fn.func 85) [] [])) (tY (.ptr p 0 0))) (.ptr p 0 0) tZ),   [.ops (rg P 42 [1,1,0,0]).toList ((rg P 42 [1,1,0,0]).toList.drop 1),.code (cd P 42 [1,1,0,1]),.code (cd P 42 [1,1,1])],[],.run,CallKind.normal,none⟩
noncomputable def zhx:AFrame:=⟨42,95,(tW (tX (tY (.fn (Fn.func (85:FuncId)) [] [])) (tX tZ (tY (.fn (Fn.func (85:FuncId)) [] [])))) (.ptr p 0 0) (tX (tX (tY (.bool false)) (tY sa)) tZ)),   [.ops (rg P (42:FuncId) [1,1,0,0]).toList ((rg P (42:FuncId) [1,1,0,0]).toList.drop 9),.code (cd P (42:FuncId) [1,1,0,1]),.code (cd P (42:FuncId) [1,1,1])],[],.run,CallKind.normal,none⟩
noncomputable def kR:AFrame:=⟨42,95,(tW (tX (tX (tX tZ (tY (.fn (Fn.func (85:FuncId)) [] []))) (tX tZ (tY rp))) tZ) (.ptr p 0 0) (tX (tX (tX (tY (.bool false)) tZ) tZ) (tX tZ (tX (tY (.bool true)) tZ)))),   [.ops (rg P (42:FuncId) [1,1,0,0]).toList ((rg P (42:FuncId) [1,1,0,0]).toList.drop 23),.code (cd P (42:FuncId) [1,1,0,1]),.code (cd P (42:FuncId) [1,1,1])],[],.run,CallKind.normal,none⟩
noncomputable def vl:AFrame:=⟨42,95,(tX tZ (tX (tX (tX tZ (tX (tY (.str nm)) tZ)) tZ) tZ)),   [.ops (rg P 42 [1,1,1,0,1,0,1,0,0]).toList ((rg P 42 [1,1,1,0,1,0,1,0,0]).toList.drop 4),.code (cd P 55 [1,0,1,0,0,1,1,0,0,1,1,0,1]),.inBlock 0,.code (cd P 42 [1,1,1,1])],[],.run,CallKind.normal,none⟩
noncomputable def q9:AFrame:=⟨42,95,(tW (tX (tW (tX (tW (tY (.ptr p 0 0)) (.bool br1) (tY sn)) (tW tZ (.tup []) (tY (.bool true)))) (.fn (Fn.func (85:FuncId)) [] []) (tX (tW (tY (.bool false)) (.ptr p 0 4) (tY (.ptr p 0 3))) (tW (tY (.bool (k==(7:Int)))) (.tup []) (tY sn)))) (tX (tX (tW (tY (.ptr p 0 0)) (.ptr p 0 0) (tY (.ptr p 0 0))) (tW tZ (.tup []) (tY (.ptr p 0 0)))) (tW (tW tZ (.bool b1) (tY (.int .i64 z2))) (.fn (Fn.func (85:FuncId)) [] []) (tW (tY (.ptr p 0 0)) (.bool false) tZ)))) (.ptr p 0 0) (tX (tX (tW (tW (tY (.ptr p 0 0)) (.bool false) (tY (.int .i64 z1))) (.bool false) (tW tZ (.tup []) (tY (.ptr p 0 0)))) (tW (tW (tY (.bool (k==(6:Int)))) rp (tY sa)) sa (tW (tY (.ptr p 0 0)) (.tup []) tZ))) (tX (tX (tW (tY (.int .i64 k)) (.ptr p 0 0) (tY (.ptr p 0 0))) (tW (tY (.bool true)) (.tup []) (tY (.ptr p 0 2)))) (tW (tW tZ (.bool false) (tY (.bool (z1==z2)))) (.bool br1) (tW (tY (.ptr p 0 2)) (.bool false) tZ))))),   [.drw (rg P 42 [1,1,1,0,1,0,1,1,1,0,0]) [16,17,18,19,20,21,22,23,24,25,26] [15,14,13,12,11,10,9,8,7,6,5,4,3,2,1,0],.code (cd P 55 [1,0,1,0,0,1,1,0,0,1,1,0,1]),.inBlock 0,.code (cd P 42 [1,1,1,1])],[],.run,CallKind.normal,none⟩
noncomputable def ql:AFrame:=⟨42,95,(tW (tX (tX tZ (tX (tX tZ (tX (tY (.fn (Fn.func 88) [] [])) tZ)) tZ)) tZ) (.ptr p 0 0) (tX tZ (tX (tX (tX tZ (tX (tY sa) tZ)) tZ) (tX tZ (tX (tX (tY (.bool true)) tZ) tZ))))),   [.ops (rg P 42 [1,1,1,0,1,0,1,1,1,1,1,0,1,0]).toList ((rg P 42 [1,1,1,0,1,0,1,1,1,1,1,0,1,0]).toList.drop 12),.code (cd P 55 [1,0,1,0,0,1,1,0,0,1,1,0,1]),.inBlock 0,.code (cd P 42 [1,1,1,1])],[],.run,CallKind.normal,none⟩
noncomputable def ks:AFrame:=⟨42,95,(tX tZ (tX (tX (tX tZ (tX (tY (.str nm)) tZ)) tZ) tZ)),   [.ops (rg P 42 [1,1,1,0,1,0,1,0,0]).toList ((rg P 42 [1,1,1,0,1,0,1,0,0]).toList.drop 4),.code (cd P 85 [1,1]),.inBlock 0,.code (cd P 42 [1,1,1,1])],[],.run,CallKind.normal,none⟩
noncomputable def vj:AFrame:=⟨42,95,(tW (tX (tX (tX (tX (tY (.ptr p 0 0)) (tY sn)) (tW tZ (.fn (Fn.func (85:FuncId)) [] []) (tY (.bool true)))) (tX (tX (tY (.bool false)) (tY (.ptr p 0 3))) (tW (tY (.bool (k==(7:Int)))) rp (tY sn)))) (tX (tX (tX (tY (.ptr p 0 0)) (tY (.ptr p 0 0))) (tX tZ (tY (.ptr p 0 0)))) (tX (tX tZ (tY (.int .i64 z2))) (tW (tY (.ptr p 0 0)) (.bool br2) tZ)))) (.ptr p 0 0) (tX (tX (tX (tW (tY (.ptr p 0 0)) (.bool false) (tY (.int .i64 z1))) (tX tZ (tY (.ptr p 0 0)))) (tX (tX (tY (.bool (k==(6:Int)))) (tY sa)) (tW (tY (.ptr p 0 0)) (.bool br2) tZ))) (tX (tX (tX (tY (.int .i64 k)) (tY (.ptr p 0 0))) (tX (tY (.bool true)) (tY (.ptr p 0 2)))) (tX (tW tZ (.bool true) (tY (.bool (z1==z2)))) (tW (tY (.ptr p 0 2)) (.bool false) tZ))))),   [.drw (rg P 42 [1,1,1,0,1,0,1,1,1,0,0]) [16,17,18,19,20,21,22,23,24,25,26] [15,14,13,12,11,10,9,8,7,6,5,4,3,2,1,0],.code (cd P 85 [1,1]),.inBlock 0,.code (cd P 42 [1,1,1,1])],[],.run,CallKind.normal,none⟩
noncomputable def wW:AFrame:=⟨42,95,(tW (tX (tX tZ (tX (tX tZ (tX (tY (.fn (Fn.func 88) [] [])) tZ)) tZ)) tZ) (.ptr p 0 0) (tX tZ (tX (tX (tX tZ (tX (tY sa) tZ)) tZ) (tX tZ (tX (tX (tY (.bool true)) tZ) tZ))))),   [.ops (rg P 42 [1,1,1,0,1,0,1,1,1,1,1,0,1,0]).toList ((rg P 42 [1,1,1,0,1,0,1,1,1,1,1,0,1,0]).toList.drop 12),.code (cd P 85 [1,1]),.inBlock 0,.code (cd P 42 [1,1,1,1])],[],.run,CallKind.normal,none⟩
noncomputable def yr:AFrame:=⟨42,95,(tW (tX (tW (tX (tW (tW (tY (.bool true)) (.ptr p 0 0) tZ) (.bool br1) (tY sn)) (tW tZ (.tup []) (tY (.bool true)))) (.fn (Fn.func (85:FuncId)) [] []) (tX (tW (tW (tY sn) (.bool false) tZ) (.ptr p 0 4) (tY (.ptr p 0 3))) (tW (tY (.bool (k==(7:Int)))) (.tup []) (tY sn)))) (tX (tX (tW (tW (tY (.ptr p 0 0)) (.ptr p 0 0) tZ) (.ptr p 0 0) (tY (.ptr p 0 0))) (tW tZ (.tup []) (tY (.ptr p 0 0)))) (tW (tW tZ (.bool b1c) (tY (.int .i64 z2c))) (.fn (Fn.func (85:FuncId)) [] []) (tW (tY (.ptr p 0 0)) (.bool false) (tY (.bool !br2)))))) (.ptr p 0 0) (tX (tX (tW (tW (tW (tY (.ptr p 0 0)) (.ptr p 0 0) tZ) (.bool false) (tY (.int .i64 z1c))) (.bool false) (tW tZ (.tup []) (tY (.ptr p 0 0)))) (tW (tW (tY (.bool (k==(6:Int)))) rp (tY sa)) sa (tW (tY (.ptr p 0 0)) (.tup []) (tY (.bool br2))))) (tX (tX (tW (tW (tY (.ptr p 0 2)) (.int .i64 k) tZ) (.ptr p 0 0) (tY (.ptr p 0 0))) (tW (tY (.bool true)) (.tup []) (tY (.ptr p 0 2)))) (tW (tW tZ (.bool false) (tY (.bool (z1c==z2c)))) (.bool br1) (tW (tY (.ptr p 0 2)) (.bool false) (tY (.bool !br2))))))),   [.drw (rg P (42:FuncId) [1,1,1,0,1,0,1,1,1,0,0]) [24,25,26] [23,22,21,20,19,18,17,16,15,14,13,12,11,10,9,8,7,6,5,4,3,2,1,0],.code (cd P (55:FuncId) [1,0,1,0,0,1,1,0,0,1,1,0,1]),.inBlock 0,.code (cd P (42:FuncId) [1,1,1,1])],[],.run,CallKind.normal,none⟩
noncomputable def yg:AFrame:=⟨42,95,(tX (tX (tX (tX tZ (tX tZ (tX (tY (.bool true)) tZ))) (tX tZ (tX tZ (tX (tY sa) tZ)))) tZ) tZ),   [.ops (rg P (42:FuncId) [1,1,1,0,1,0,1,1,1,1,1,0,1,0]).toList ((rg P (42:FuncId) [1,1,1,0,1,0,1,1,1,1,1,0,1,0]).toList.drop 20),.code (cd P (55:FuncId) [1,0,1,0,0,1,1,0,0,1,1,0,1]),.inBlock 0,.code (cd P (42:FuncId) [1,1,1,1])],[],.run,CallKind.normal,none⟩
noncomputable def xP:AFrame:=⟨42,95,(tX (tX (tX (tX tZ (tX tZ (tX (tY (.bool true)) tZ))) tZ) tZ) (tX (tX tZ (tX tZ (tX tZ (tX (tY sn2) tZ)))) tZ)),   [.ops (rg P (42:FuncId) [1,1,1,0,1,0,1,1,1,1,1,0,1,0]).toList ((rg P (42:FuncId) [1,1,1,0,1,0,1,1,1,1,1,0,1,0]).toList.drop 21),.code (cd P (55:FuncId) [1,0,1,0,0,1,1,0,0,1,1,0,1]),.inBlock 0,.code (cd P (42:FuncId) [1,1,1,1])],[],.run,CallKind.normal,none⟩
end
section
variable {R:AV→AHeap→Prop} {keep N p:Nat} {f0:FuncId} {rest:List AFrame} {O:T AObj} {G:T (T AV)} {K:AM→Prop} {td:List AItem} {br0 br1 br2 b1c br3 br4:Bool} {sa sn rp sn2:AV} {k z1c z2c:Int} {nm:List UInt8}
theorem t_frm:(K (AM.mk (enF 86 [.ptr p 0 0]) ((Ffrm p)::rest) ⟨O,N,G⟩))=OT f0 R keep K (.seq [.run 12,.keep [0,3,5],.run 1] .fin) ((AM.mk (enF 42 [.ptr p 0 0]) rest ⟨O,N,G⟩)):=by kernel_rfl
theorem zhK:((((!br0))=true→(K (AM.mk (RF 42 95 (tX tZ (tY (.bool false))) [.code (cd P 86 [1,1,0,1,0,1,0,1]),.code (cd P (42:FuncId) [1,1,1])]) rest ⟨O,N,G⟩)))∧(((!br0))=false→((lC O N G p 3 sa)∧K (AM.mk (enF 55 [sa,.fn (Fn.func (85:FuncId)) [] []]) ((zhx p sa)::rest) ⟨O,N,G⟩))))=OT f0 R keep K (.seq [.run 3] (.fork 8 (.seq [.run 29,.keep [2]] .fin) (.seq [.run 3,.hop (sa) O,.run 1,.keep [0,3,8,12,13],.run 1] .fin))) ((AM.mk (RF 86 96 (tX tZ (tY (.bool br0))) td) ((Ffrm p)::rest) ⟨O,N,G⟩)):=by kernel_rfl
theorem z8:(((br1)=true→(K (AM.mk (RF 42 95 (tX tZ (tY (.bool false))) [.code (cd P 55 [1,0,1,0,0,1,1,0,0,1,1,0,1]),.code (cd P (42:FuncId) [1,1,1])]) rest ⟨O,N,G⟩)))∧((br1)=false→(∃ (b1:Bool),(lC O N G p 4 rp)∧(w5 P (⟨O,N,G⟩) (BinOp.neq) (23) (true) (rp) (.nilp)=(some (.bool b1)))∧((b1)=true→((lC O N G p 4 rp)∧K (AM.mk (enF 85 [rp]) ((kR p rp)::rest) ⟨O,N,G⟩)))∧((b1)=false→((lC O N G p 0 (.int .i64 k))∧(((k==(6:Int)))=true→((lC O N G p 1 (.str nm))∧K (AM.mk (enF 87 [.str nm]) ((vl nm)::rest) ⟨O,N,G⟩)))∧(((k==(6:Int)))=false→((((k==(7:Int)))=true→(∃ (z1:Int) (z2:Int),(lC O N G p 2 sn)∧(lN O N G 32 sn z1)∧(lC O N G p 3 sa)∧(lN O N G 33 sa z2)∧(((z1==z2))=true→((lC O N G p 2 sn)∧K (AM.mk (enF 53 [sn,.fn (Fn.func 54) [] []]) ((q9 p k sn sa rp z1 z2 b1 br1)::rest) ⟨O,N,G⟩)))∧(((z1==z2))=false→(K (AM.mk (RF 42 95 (tX tZ (tY (.bool false))) [.code (cd P 55 [1,0,1,0,0,1,1,0,0,1,1,0,1]),.inBlock 0,.code (cd P 42 [1,1,1,1])]) rest ⟨O,N,G⟩)))))∧(((k==(7:Int)))=false→((((k==(9:Int)))=true→(∃ (z1:Int),(lC O N G p 3 sa)∧(lN O N G 33 sa z1)∧((decide (z1≥(2:Int)))=true→((lC O N G p 3 sa)∧K (AM.mk (enF 55 [sa,.fn (Fn.func 88) [] []]) ((ql p sa)::rest) ⟨O,N,G⟩)))∧((decide (z1≥(2:Int)))=false→(K (AM.mk (RF 42 95 (tX tZ (tY (.bool false))) [.code (cd P 55 [1,0,1,0,0,1,1,0,0,1,1,0,1]),.inBlock 0,.code (cd P 42 [1,1,1,1])]) rest ⟨O,N,G⟩)))))∧(((k==(9:Int)))=false→(K (AM.mk (RF 42 95 (tX tZ (tY (.bool true))) [.code (cd P 55 [1,0,1,0,0,1,1,0,0,1,1,0,1])]) rest ⟨O,N,G⟩))))))))))))=OT f0 R keep K (.seq [.run 3] (.fork 16 (.seq [.run 21,.keep [2]] .fin) (.ex fun b1:Bool=>(.seq [.run 3,.hop (rp) O,.hop (.bool b1) O,.run 1] (.fork 22 (.seq [.run 4,.hop (rp) O,.keep [0,16,22,23,27],.run 1] .fin) (.seq [.run 17,.hop (.int .i64 k) O,.run 7] (.fork 35 (.seq [.run 6,.hop (.str nm) O,.keep [40],.run 1] .fin) (.seq [.run 6] (.fork 42 (.ex fun z1:Int=>(.ex fun z2:Int=>(.seq [.run 6,.hop (sn) O,.hopn (.int .i64 z1) O (N),.run 3,.hop (sa) O,.hopn (.int .i64 z2) O (N),.run 2] (.fork 55 (.seq [.run 3,.hop (sn) O,.run 1] .fin) (.seq [.run 17,.keep [2]] .fin))))) (.seq [.run 6] (.fork 70 (.ex fun z1:Int=>(.seq [.run 10,.hop (sa) O,.hopn (.int .i64 z1) O (N),.run 2] (.fork 78 (.seq [.run 3,.hop (sa) O,.run 1,.keep [0,78,82,83],.run 1] .fin) (.seq [.run 19,.keep [2]] .fin)))) (.seq [.run 8,.keep [2]] .fin)))))))))))) ((AM.mk (RF 55 17 (tX tZ (tX (tY (.bool br1)) tZ)) td) ((zhx p sa)::rest) ⟨O,N,G⟩)):=by kernel_rfl
theorem qw:(((br2)=true→(K (AM.mk (RF 42 95 (tX tZ (tY (.bool false))) [.code (cd P 85 [1,1]),.code (cd P (42:FuncId) [1,1,1])]) rest ⟨O,N,G⟩)))∧((br2)=false→((lC O N G p 0 (.int .i64 k))∧(((k==(6:Int)))=true→((lC O N G p 1 (.str nm))∧K (AM.mk (enF 87 [.str nm]) ((ks nm)::rest) ⟨O,N,G⟩)))∧(((k==(6:Int)))=false→((((k==(7:Int)))=true→(∃ (z1:Int) (z2:Int),(lC O N G p 2 sn)∧(lN O N G 32 sn z1)∧(lC O N G p 3 sa)∧(lN O N G 33 sa z2)∧(((z1==z2))=true→((lC O N G p 2 sn)∧K (AM.mk (enF 53 [sn,.fn (Fn.func 54) [] []]) ((vj p k sn sa rp z1 z2 br2)::rest) ⟨O,N,G⟩)))∧(((z1==z2))=false→(K (AM.mk (RF 42 95 (tX tZ (tY (.bool false))) [.code (cd P 85 [1,1]),.inBlock 0,.code (cd P 42 [1,1,1,1])]) rest ⟨O,N,G⟩)))))∧(((k==(7:Int)))=false→((((k==(9:Int)))=true→(∃ (z1:Int),(lC O N G p 3 sa)∧(lN O N G 33 sa z1)∧((decide (z1≥(2:Int)))=true→((lC O N G p 3 sa)∧K (AM.mk (enF 55 [sa,.fn (Fn.func 88) [] []]) ((wW p sa)::rest) ⟨O,N,G⟩)))∧((decide (z1≥(2:Int)))=false→(K (AM.mk (RF 42 95 (tX tZ (tY (.bool false))) [.code (cd P 85 [1,1]),.inBlock 0,.code (cd P 42 [1,1,1,1])]) rest ⟨O,N,G⟩)))))∧(((k==(9:Int)))=false→(K (AM.mk (RF 42 95 (tX tZ (tY (.bool true))) [.code (cd P 85 [1,1])]) rest ⟨O,N,G⟩))))))))))=OT f0 R keep K (.seq [.run 4] (.fork 30 (.seq [.run 6,.keep [2]] .fin) (.seq [.run 8,.hop (.int .i64 k) O,.run 7] (.fork 35 (.seq [.run 6,.hop (.str nm) O,.keep [40],.run 1] .fin) (.seq [.run 6] (.fork 42 (.ex fun z1:Int=>(.ex fun z2:Int=>(.seq [.run 6,.hop (sn) O,.hopn (.int .i64 z1) O (N),.run 3,.hop (sa) O,.hopn (.int .i64 z2) O (N),.run 2] (.fork 55 (.seq [.run 3,.hop (sn) O,.run 1] .fin) (.seq [.run 17,.keep [2]] .fin))))) (.seq [.run 6] (.fork 70 (.ex fun z1:Int=>(.seq [.run 10,.hop (sa) O,.hopn (.int .i64 z1) O (N),.run 2] (.fork 78 (.seq [.run 3,.hop (sa) O,.run 1,.keep [0,78,82,83],.run 1] .fin) (.seq [.run 19,.keep [2]] .fin)))) (.seq [.run 8,.keep [2]] .fin))))))))) ((AM.mk (RF 85 10 (tX tZ (tY (.bool br2))) td) ((kR p rp)::rest) ⟨O,N,G⟩)):=by kernel_rfl
theorem kn:(K (AM.mk (RF 42 95 (tX tZ (tY (.bool br2))) [.code (cd P (55:FuncId) [1,0,1,0,0,1,1,0,0,1,1,0,1]),.inBlock 0,.code (cd P (42:FuncId) [1,1,1,1])]) rest ⟨O,N,G⟩))=OT f0 R keep K (.seq [.run 4,.keep [2]] .fin) ((AM.mk (RF 87 15 (tX tZ (tY (.bool br2))) td) ((vl nm)::rest) ⟨O,N,G⟩)):=by kernel_rfl
theorem yn:((((!br2))=true→((lC O N G p 2 sn)∧K (AM.mk (enF 60 [sn]) ((yr p k sn sa rp z1c br1 br2 b1c z2c)::rest) ⟨O,N,G⟩)))∧(((!br2))=false→(K (AM.mk (RF 42 95 (tX tZ (tY (.bool false))) [.code (cd P (55:FuncId) [1,0,1,0,0,1,1,0,0,1,1,0,1]),.inBlock 0,.code (cd P (42:FuncId) [1,1,1,1])]) rest ⟨O,N,G⟩))))=OT f0 R keep K (.seq [.run 4] (.fork 63 (.seq [.run 3,.hop (sn) O,.run 1] .fin) (.seq [.run 9,.keep [2]] .fin))) ((AM.mk (RF 53 17 (tX tZ (tX (tY (.bool br2)) tZ)) td) ((q9 p k sn sa rp z1c z2c b1c br1)::rest) ⟨O,N,G⟩)):=by kernel_rfl
theorem qy:(K (AM.mk (RF 42 95 (tX tZ (tY (.bool br3))) [.code (cd P (55:FuncId) [1,0,1,0,0,1,1,0,0,1,1,0,1]),.inBlock 0,.code (cd P (42:FuncId) [1,1,1,1])]) rest ⟨O,N,G⟩))=OT f0 R keep K (.seq [.run 5,.keep [2]] .fin) ((AM.mk (RF 60 20 (tX tZ (tY (.bool br3))) td) ((yr p k sn sa rp z1c br1 br2 b1c z2c)::rest) ⟨O,N,G⟩)):=by kernel_rfl
theorem yf:((((!br2))=true→((lC O N G p 3 sa)∧K (AM.mk (enF 89 [sa]) ((yg sa)::rest) ⟨O,N,G⟩)))∧(((!br2))=false→(K (AM.mk (RF 42 95 (tX tZ (tY (.bool false))) [.code (cd P (55:FuncId) [1,0,1,0,0,1,1,0,0,1,1,0,1]),.inBlock 0,.code (cd P (42:FuncId) [1,1,1,1])]) rest ⟨O,N,G⟩))))=OT f0 R keep K (.seq [.run 4] (.fork 87 (.seq [.run 3,.hop (sa) O,.keep [87,91],.run 1] .fin) (.seq [.run 10,.keep [2]] .fin))) ((AM.mk (RF 55 17 (tX tZ (tX (tY (.bool br2)) tZ)) td) ((ql p sa)::rest) ⟨O,N,G⟩)):=by kernel_rfl
theorem y6:(K (AM.mk (enF 60 [sn2]) ((xP sn2)::rest) ⟨O,N,G⟩))=OT f0 R keep K (.seq [.run 1,.keep [87,92],.run 1] .fin) ((AM.mk (RF 89 19 (tX tZ (tY sn2)) td) ((yg sa)::rest) ⟨O,N,G⟩)):=by kernel_rfl
theorem yv:(K (AM.mk (RF 42 95 (tX tZ (tY (.bool br4))) [.code (cd P (55:FuncId) [1,0,1,0,0,1,1,0,0,1,1,0,1]),.inBlock 0,.code (cd P (42:FuncId) [1,1,1,1])]) rest ⟨O,N,G⟩))=OT f0 R keep K (.seq [.run 5,.keep [2]] .fin) ((AM.mk (RF 60 20 (tX tZ (tY (.bool br4))) td) ((xP sn2)::rest) ⟨O,N,G⟩)):=by kernel_rfl
end
variable {O O':T AObj} {N:Nat} {G:T (T AV)}
theorem zbX:∀ (m:Nat) (t:Ty),cnt t≤m∧cnt t≤60→isNo t=false→FC G t
 | m,.no,hm,hn=>by cases hn
 | 0,.mk k nm ns ts r,hm,hn=>by rw [xj] at hm; omega
 | m+1,.mk k nm ns ts r,hm,hn=>by
  intro keep f0 Q hi p rest O N ht hN hK
  obtain ⟨id,sn,sa,ps,q,rfl,i1',i2',i3',i4',i5',i6',i7',i8',i9'⟩:=ht.inv
  rw [xj] at hm
  rw [zkY,zdV] at hK
  have hany:ts.any (fun x=>!okT x)=!(ts.all okT):=by rw [List.any_eq_not_all_not]; simp
  refine (ot t_frm ?_)
  refine ho_ok i2' i3' i4' i5' i9' fun td=>?_
  rcases Bool.eq_false_or_eq_true (own k nm ns ts r) with hw | hw
  rotate_left
  · rw [hw,Bool.false_and,Bool.false_and,Bool.false_and] at hK
    exact (ot (zhK (sa:=.nilp) (br0:=(own k nm ns ts r))) (fkt (by rw [hw]; rfl) (hK O N _ Ext.refl)))
  have hf:=yP hw
  refine (ot (zhK (sa:=sa) (br0:=(own k nm ns ts r))) (fkf (by rw [hw]; rfl) ⟨i2'.ld 3 rfl,?_⟩))
  refine zqF (F:=fun x hx hn=>zbX m x (by have:=zA hx; omega) hn) i4' i5' i6' i8' hN fun O1 N1 td ex1=>?_
  have n1:=ex1.1
  have t1:=i2'.same (ex1.2 id (by omega))
  have s1:=i4'.keep (O':=O1) (fun j _ hj=>ex1.2 j (by omega)) (Nat.le_refl 0) (Nat.le_refl hi)
  have w1:=i3'.keep (O':=O1) (fun j _ hj=>ex1.2 j (by omega)) (Nat.le_refl 0) (Nat.le_refl hi)
  have r1:=i9'.same (O':=O1) (fun j hj=>ex1.2 j (by omega)) (Nat.le_refl _)
  rcases Bool.eq_false_or_eq_true (ts.all okT) with hall | hall
  rotate_left
  · rw [hw,hall,Bool.true_and,Bool.false_and,Bool.false_and] at hK
    exact (ot (z8 (k:=0) (nm:=[]) (sn:=.nilp) (rp:=.nilp) (br1:=(ts.any (fun x=>!okT x)))) (fkt (by rw [hany,hall]; rfl) (hK O1 N1 _ ex1)))
  rw [hw,hall,Bool.true_and,Bool.true_and] at hK
  have hok:∀ x∈ts,okT x=true:=List.all_eq_true.1 hall
  rcases Bool.eq_false_or_eq_true (isNo r) with hr | hr
  rotate_left
  · have k8:=(hf.2.1).2 hr
    refine (ot (z8 (k:=0) (nm:=[]) (sn:=.nilp) (rp:=(pv q)) (br1:=(ts.any (fun x=>!okT x)))) (fkf (by rw [hany,hall]; rfl) ⟨(!isNo r),t1.ld 4 rfl,vV r1 _,fkt (by rw [hr]; rfl) ⟨t1.ld 4 rfl,?_⟩⟩))
    refine zoq (fun h=>zbX m r (by omega) h) r1 (by omega) fun O2 N2 td ex2=>?_
    have n2:=ex2.1
    have t2:=t1.same (ex2.2 id (by omega))
    rw [hr,Bool.false_or] at hK
    rcases Bool.eq_false_or_eq_true (okT r) with hrr | hrr
    · rw [hrr,Bool.true_and,show okK k nm ns ts=true from by unfold okK; rw [if_neg (by omega),if_neg (by omega),if_neg (by omega)]] at hK
      exact (ot (qw (k:=k) (nm:=[]) (sn:=.nilp) (sa:=.nilp) (rp:=(pv q)) (br2:=(!okT r))) (fkf (by rw [hrr]; rfl) ⟨t2.ld 0 rfl,fkf (beq_eq_false_iff_ne.2 (by omega)) (fkf (beq_eq_false_iff_ne.2 (by omega)) (fkf (beq_eq_false_iff_ne.2 (by omega)) (hK O2 N2 _ (ex1.trans ex2))))⟩))
    · rw [hrr,Bool.false_and] at hK
      exact (ot (qw (k:=0) (nm:=[]) (sn:=.nilp) (sa:=.nilp) (rp:=(pv q)) (br2:=(!okT r))) (fkt (by rw [hrr]; rfl) (hK O2 N2 _ (ex1.trans ex2))))
  rw [hr,Bool.true_or,Bool.true_and] at hK
  by_cases k6:k=6
  · rw [show okK k nm ns ts=zT nm from by unfold okK; rw [if_pos k6]] at hK
    refine (ot (z8 (k:=k) (nm:=nm) (sn:=.nilp) (rp:=(pv q)) (br1:=(ts.any (fun x=>!okT x)))) (fkf (by rw [hany,hall]; rfl) ⟨(!isNo r),t1.ld 4 rfl,vV r1 _,fkf (by rw [hr]; rfl) ⟨t1.ld 0 rfl,fkt (beq_iff_eq.2 k6) ⟨t1.ld 1 rfl,?_⟩⟩⟩))
    refine zqJ nm fun O2 N2 td ex2=>?_
    exact (ot (kn (br2:=(zT nm))) (hK O2 N2 _ (ex1.trans ex2)))
  have b6:(k==(6:Int))=false:=beq_eq_false_iff_ne.2 k6
  by_cases k7:k=7
  · rw [show okK k nm ns ts=(decide (ns.length=ts.length)&&ns.all zh&&zaC ns) from by unfold okK; rw [if_neg k6,if_pos k7]] at hK
    by_cases hl:ns.length=ts.length
    · rw [decide_eq_true hl,Bool.true_and] at hK
      refine (ot (z8 (k:=k) (nm:=[]) (sn:=sn) (rp:=(pv q)) (br1:=(ts.any (fun x=>!okT x)))) (fkf (by rw [hany,hall]; rfl) ⟨(!isNo r),t1.ld 4 rfl,vV r1 _,fkf (by rw [hr]; rfl) ⟨t1.ld 0 rfl,fkf b6 (fkt (beq_iff_eq.2 k7) ⟨((ns.length:Nat):Int),((ts.length:Nat):Int),t1.ld 2 rfl,w1.len sSl _ _,t1.ld 3 rfl,by rw [← i5']; exact s1.len pSl _ _,fkt (by rw [hl]; exact beq_self_eq_true _) ⟨t1.ld 2 rfl,?_⟩⟩)⟩⟩))
      refine zqb w1 (by omega) (by omega) fun O2 N2 td ex2=>?_
      have n2:=ex2.1
      have t2:=t1.same (ex2.2 id (by omega))
      have w2:=w1.keep (O':=O2) (fun j _ hj=>ex2.2 j (by omega)) (Nat.le_refl 0) (Nat.le_refl hi)
      rw [show ns.all zh=!(ns.any (fun s=>!zh s)) from by rw [List.any_eq_not_all_not]; simp] at hK
      rcases Bool.eq_false_or_eq_true (ns.any (fun s=>!zh s)) with ha | ha
      · rw [ha,Bool.not_true,Bool.false_and] at hK
        exact (ot (yn (rp:=(pv q)) (z1c:=((ns.length:Nat):Int)) (br1:=(ts.any (fun x=>!okT x))) (br2:=(ns.any (fun s=>!zh s))) (b1c:=(!isNo r)) (z2c:=((ts.length:Nat):Int))) (fkf (by rw [ha]; rfl) (hK O2 N2 _ (ex1.trans ex2))))
      · rw [ha,Bool.not_false,Bool.true_and] at hK
        refine (ot (yn (rp:=(pv q)) (z1c:=((ns.length:Nat):Int)) (br1:=(ts.any (fun x=>!okT x))) (br2:=(ns.any (fun s=>!zh s))) (b1c:=(!isNo r)) (z2c:=((ts.length:Nat):Int))) (fkt (by rw [ha]; rfl) ⟨t2.ld 2 rfl,?_⟩))
        refine zoB w2 (by omega) fun td=>?_
        exact (ot (qy (rp:=(pv q)) (z1c:=((ns.length:Nat):Int)) (br1:=(ts.any (fun x=>!okT x))) (br2:=(ns.any (fun s=>!zh s))) (br3:=(zaC ns)) (b1c:=(!isNo r)) (z2c:=((ts.length:Nat):Int))) (hK O2 N2 _ (ex1.trans ex2)))
    · rw [decide_eq_false hl,Bool.false_and,Bool.false_and] at hK
      exact (ot (z8 (k:=k) (nm:=[]) (sn:=sn) (rp:=(pv q)) (br1:=(ts.any (fun x=>!okT x)))) (fkf (by rw [hany,hall]; rfl) ⟨(!isNo r),t1.ld 4 rfl,vV r1 _,fkf (by rw [hr]; rfl) ⟨t1.ld 0 rfl,fkf b6 (fkt (beq_iff_eq.2 k7) ⟨((ns.length:Nat):Int),((ts.length:Nat):Int),t1.ld 2 rfl,w1.len sSl _ _,t1.ld 3 rfl,by rw [← i5']; exact s1.len pSl _ _,fkf (beq_eq_false_iff_ne.2 (by omega)) (hK O1 N1 _ ex1)⟩)⟩⟩))
  have b7:(k==(7:Int))=false:=beq_eq_false_iff_ne.2 k7
  by_cases k9:k=9
  · rw [show okK k nm ns ts=(decide (2≤ts.length)&&ts.all (fun x=>!(kd x==9 || kd x==1))&&zaC (ts.map wr)) from by unfold okK; rw [if_neg k6,if_neg k7,if_pos k9]] at hK
    by_cases hl:2≤ts.length
    · rw [decide_eq_true hl,Bool.true_and] at hK
      refine (ot (z8 (k:=k) (nm:=[]) (sn:=.nilp) (rp:=(pv q)) (br1:=(ts.any (fun x=>!okT x)))) (fkf (by rw [hany,hall]; rfl) ⟨(!isNo r),t1.ld 4 rfl,vV r1 _,fkf (by rw [hr]; rfl) ⟨t1.ld 0 rfl,fkf b6 (fkf b7 (fkt (beq_iff_eq.2 k9) ⟨((ts.length:Nat):Int),t1.ld 3 rfl,by rw [← i5']; exact s1.len pSl _ _,fkt (decide_eq_true (by omega)) ⟨t1.ld 3 rfl,?_⟩⟩))⟩⟩))
      refine zqs (ho:=hok) s1 i5' i6' (fun j x p a b=>(i8' j x p a b).same (fun j hj=>ex1.2 j (by omega)) (Nat.le_refl _)) (by omega) fun O2 N2 td ex2=>?_
      have n2:=ex2.1
      have t2:=t1.same (ex2.2 id (by omega))
      have s2:=s1.keep (O':=O2) (fun j _ hj=>ex2.2 j (by omega)) (Nat.le_refl 0) (Nat.le_refl hi)
      rw [show (ts.all (fun x=>!(kd x==9 || kd x==1)))=!(ts.any (fun x=>(kd x==9 || kd x==1))) from by rw [List.any_eq_not_all_not]; simp] at hK
      rcases Bool.eq_false_or_eq_true (ts.any (fun x=>(kd x==9 || kd x==1))) with ha | ha
      · rw [ha,Bool.not_true,Bool.false_and] at hK
        exact (ot (yf (br2:=(ts.any (fun x=>(kd x==9 || kd x==1))))) (fkf (by rw [ha]; rfl) (hK O2 N2 _ (ex1.trans ex2))))
      · rw [ha,Bool.not_false,Bool.true_and] at hK
        refine (ot (yf (br2:=(ts.any (fun x=>(kd x==9 || kd x==1))))) (fkt (by rw [ha]; rfl) ⟨t2.ld 3 rfl,?_⟩))
        refine zqD s2 i5' i6' (fun j x p a b=>((i8' j x p a b).same (fun j hj=>ex1.2 j (by omega)) (Nat.le_refl _)).same (fun j hj=>ex2.2 j (by omega)) (Nat.le_refl _)) (fun x hx=>⟨hok x hx,by have:=zA hx; omega⟩) (by omega) fun O3 N3 td ss ex3 gv=>?_
        refine (ot y6 ?_)
        refine zoB (gv.sv sEn) (by rw [List.length_map]; omega) fun td=>?_
        exact (ot (yv (br4:=(zaC (ts.map wr)))) (hK O3 N3 _ ((ex1.trans ex2).trans ex3)))
    · rw [decide_eq_false hl,Bool.false_and,Bool.false_and] at hK
      exact (ot (z8 (k:=k) (nm:=[]) (sn:=.nilp) (rp:=(pv q)) (br1:=(ts.any (fun x=>!okT x)))) (fkf (by rw [hany,hall]; rfl) ⟨(!isNo r),t1.ld 4 rfl,vV r1 _,fkf (by rw [hr]; rfl) ⟨t1.ld 0 rfl,fkf b6 (fkf b7 (fkt (beq_iff_eq.2 k9) ⟨((ts.length:Nat):Int),t1.ld 3 rfl,by rw [← i5']; exact s1.len pSl _ _,fkf (decide_eq_false (by omega)) (hK O1 N1 _ ex1)⟩))⟩⟩))
  have b9:(k==(9:Int))=false:=beq_eq_false_iff_ne.2 k9
  rw [show okK k nm ns ts=true from by unfold okK; rw [if_neg k6,if_neg k7,if_neg k9]] at hK
  exact (ot (z8 (k:=k) (nm:=[]) (sn:=.nilp) (rp:=(pv q)) (br1:=(ts.any (fun x=>!okT x)))) (fkf (by rw [hany,hall]; rfl) ⟨(!isNo r),t1.ld 4 rfl,vV r1 _,fkf (by rw [hr]; rfl) ⟨t1.ld 0 rfl,fkf b6 (fkf b7 (fkf b9 (hK O1 N1 _ ex1)))⟩⟩))
end Go.Proofs.Ytcdigdplhlgcaaa.gx
end
section
set_option maxRecDepth 100000
set_option linter.unusedVariables false
set_option linter.unusedSectionVars false
set_option linter.unusedSimpArgs false
namespace Go.Proofs.Ytcdigdplhlgcaaa.gx
open Go Ev tp
section
variable (p:Nat) (nm:List UInt8) (rp sn:AV) (q:Nat) (k2:Int) (sa:AV) (j:Int) (rest:List AFrame) (O:T AObj) (N:Nat) (G:T (T AV)) (i1 i2 i3 i4 i5 i6 i7 i8 i9:Nat) (s1 s2:AV) (z1:Int) (l1 l2:List UInt8) (z1c:Int) (l1c:List UInt8) (s1c:AV) (wa wb:List UInt8) (i1c i2c i3c:Nat) (br0:Bool) (i4c i5c i6c i7c i8c i9c:Nat) (s2c:AV)
noncomputable def Wma:AM:=⟨⟨43,225,(tW (tX (tY (.int .i64 j)) tZ) (.ptr p 0 0) tZ),   [.code (cd P 43 [1,1,1,0,1,0,0]),.inLoop (cd P 43 [1,1,1,0,1,0,0]),.inBlock 0,.code (cd P 43 [1,1,1,1])],[],.run,CallKind.normal,none⟩,rest,⟨O,N,G⟩⟩
noncomputable def zqP:AFrame:=⟨43,225,(tW (tX (tY (.int .i64 j)) tZ) (.ptr p 0 0) (tX (tX tZ (tX tZ (tX tZ (tX (tY s1) tZ)))) tZ)),   [.ops (rg P 43 [1,1,1,0,1,0,0,1,0,0,0]).toList ((rg P 43 [1,1,1,0,1,0,0,1,0,0,0]).toList.drop 7),.code (cd P 43 [1,1,1,0,1,0,0,1,0,0,1]),.inBlock 1,.code (cd P 43 [1,1,1,0,1,0,0,1,1]),.inLoop (cd P (43:FuncId) [1,1,1,0,1,0,0]),.inBlock 0,.code (cd P (43:FuncId) [1,1,1,1])],[],.run,CallKind.normal,none⟩
noncomputable def zng:AFrame:=⟨43,225,(tX tZ (tX (tX (tX tZ (tX (tX tZ (tY (.str nm))) tZ)) tZ) tZ)),   [.ops (rg P 43 [1,1,1,1,0,1,0,1,0,0]).toList ((rg P 43 [1,1,1,1,0,1,0,1,0,0]).toList.drop 4),.code (cd P 43 [1,0,1,0,1]),.inBlock 2,.code (cd P 43 [1,1,1,1,1])],[],.run,CallKind.normal,none⟩
noncomputable def Wmb:AM:=⟨⟨43,225,(tW tZ (.ptr p 0 0) (tX (tY (.int .i64 j)) tZ)),   [.code (cd P 43 [1,1,1,1,0,1,0,1,1,1,0,1,1,0,0]),.inLoop (cd P 43 [1,1,1,1,0,1,0,1,1,1,0,1,1,0,0]),.inBlock 3,.inBlock 2,.code (cd P 43 [1,1,1,1,1])],[],.run,CallKind.normal,none⟩,rest,⟨O,N,G⟩⟩
noncomputable def zh4:AFrame:=⟨43,225,(tX (tX tZ (tX tZ (tX (tX (tX tZ (tX (tY rp) tZ)) tZ) tZ))) tZ),   [.ops (rg P 43 [1,1,1,1,0,1,0,1,1,1,1,1,0,0]).toList ((rg P 43 [1,1,1,1,0,1,0,1,1,1,1,1,0,0]).toList.drop 4),.code (cd P 43 [1,0,1,0,1]),.inBlock 2,.code (cd P 43 [1,1,1,1,1])],[],.run,CallKind.normal,none⟩
noncomputable def Wmc:AM:=⟨⟨43,225,(tW (tX tZ (tY (.int .i64 j))) (.ptr p 0 0) tZ),   [.code (cd P 43 [1,1,1,1,0,1,0,1,1,1,1,1,1,1,0,0,1,0,0]),.inLoop (cd P 43 [1,1,1,1,0,1,0,1,1,1,1,1,1,1,0,0,1,0,0]),.inBlock 5,.code (cd P 43 [1,1,1,1,0,1,0,1,1,1,1,1,1,1,0,1]),.inBlock 2,.code (cd P 43 [1,1,1,1,1])],[],.run,CallKind.normal,none⟩,rest,⟨O,N,G⟩⟩
noncomputable def zqZ:AFrame:=⟨43,225,(tW (tX (tX (tX tZ (tX tZ (tX tZ (tY (.int .i64 j))))) (tX (tX (tX (tX (tY sn) tZ) tZ) tZ) (tX tZ (tX tZ (tY sn))))) (tX (tX (tX (tX (tX (tY (.ptr p 0 0)) tZ) tZ) tZ) (tX tZ (tX tZ (tY (.ptr p 0 0))))) (tX (tX (tX (tX (tY (.ptr i1 i2 i3)) tZ) tZ) tZ) (tX tZ (tX tZ (tY (.bool true))))))) (.ptr p 0 0) (tX (tW (tX (tX (tX (tX (tY (.ptr p 0 0)) tZ) tZ) tZ) (tX tZ (tX tZ (tY (.ptr p 0 0))))) (.int .i64 j) (tX (tX (tX (tX (tY (.int .i64 j)) tZ) tZ) tZ) (tX tZ (tX tZ (tY (.int .i64 z1)))))) (tX (tX (tX (tX (tX (tY (.ptr p 0 2)) tZ) tZ) tZ) (tX tZ (tX tZ (tY (.ptr p 0 2))))) (tX (tX (tX (tX (tY (.str l1)) tZ) tZ) tZ) tZ)))),   [.drw (rg P 43 [1,1,1,1,0,1,0,1,1,1,0,1,1,0,0,1,0,0,0]) [7,8,9,10,11,12,13,14,15,16,17,18,19,20,21,22,23,24,25,26,27,28,29,30,31] [6,5,4,3,2,1,0],.code (cd P 43 [1,1,1,1,0,1,0,1,1,1,0,1,1,0,0,1,0,0,1]),.inBlock 4,.code (cd P 43 [1,1,1,1,0,1,0,1,1,1,0,1,1,0,0,1,1]),.inLoop (cd P (43:FuncId) [1,1,1,1,0,1,0,1,1,1,0,1,1,0,0]),.inBlock 3,.inBlock 2,.code (cd P (43:FuncId) [1,1,1,1,1])],[],.run,CallKind.normal,none⟩
noncomputable def zcN:AFrame:=⟨43,225,(tW (tX (tX (tX (tX tZ (tX (tX (tY (.ptr p 0 2)) tZ) tZ)) (tX (tX (tX (tY (.bool br0)) tZ) tZ) (tX (tX (tY (.ptr p 0 2)) tZ) (tY (.int .i64 j))))) (tX (tX (tX (tX (tY sn) tZ) tZ) (tX (tX (tY (.ptr i1 i2 i3)) tZ) tZ)) (tX (tX (tX (tY (.bool (decide (j > (0:Int))))) tZ) tZ) (tX (tX (tY (.str l2)) tZ) (tY sn))))) (tX (tX (tX (tX (tX (tY (.ptr p 0 0)) tZ) tZ) (tX (tX (tY (.int .i64 j)) tZ) tZ)) (tX (tX (tX (tY (.bool false)) tZ) tZ) (tX (tX (tY (.int .i64 j)) tZ) (tY (.ptr p 0 0))))) (tX (tX (tX (tX (tY (.ptr i1c i2c i3c)) tZ) tZ) (tX (tX (tY (.ptr p 0 0)) tZ) tZ)) (tX (tX (tX (tY (.ptr p 0 0)) tZ) tZ) (tX tZ (tY (.bool true))))))) (.ptr p 0 0) (tX (tW (tX (tX (tX (tX (tY (.ptr p 0 0)) tZ) tZ) (tX (tX (tY sn) tZ) tZ)) (tX (tX (tX (tY (.bool !br0)) tZ) tZ) (tX (tX (tY sn) tZ) (tY (.ptr p 0 0))))) (.int .i64 j) (tX (tX (tX (tX (tY (.int .i64 j)) tZ) tZ) (tX (tX (tY (.str l1)) tZ) tZ)) (tX (tX (tX (tY (.bool true)) tZ) tZ) (tX tZ (tY (.int .i64 z1c)))))) (tX (tX (tX (tX (tX (tY (.ptr p 0 2)) tZ) tZ) (tX (tX (tY (.int .i64 (IntKind.i64.wrap (j - (1:Int))))) tZ) tZ)) (tX (tX (tX (tY (.int .i64 j)) tZ) tZ) (tX (tX (tY (.ptr i4 i5 i6)) tZ) (tY (.ptr p 0 2))))) (tX (tX (tX (tX (tY (.str l1c)) tZ) tZ) (tX (tX (tY (.ptr p 0 0)) tZ) tZ)) (tX (tX (tX (tY (.ptr p 0 0)) tZ) tZ) tZ))))),   [.drw (rg P (43:FuncId) [1,1,1,1,0,1,0,1,1,1,0,1,1,0,0,1,0,0,0]) [28,29,30,31] [27,26,25,24,23,22,21,20,19,18,17,16,15,14,13,12,11,10,9,8,7,6,5,4,3,2,1,0],.code (cd P (43:FuncId) [1,1,1,1,0,1,0,1,1,1,0,1,1,0,0,1,0,0,1]),.inBlock 4,.code (cd P (43:FuncId) [1,1,1,1,0,1,0,1,1,1,0,1,1,0,0,1,1]),.inLoop (cd P (43:FuncId) [1,1,1,1,0,1,0,1,1,1,0,1,1,0,0]),.inBlock 3,.inBlock 2,.code (cd P (43:FuncId) [1,1,1,1,1])],[],.run,CallKind.normal,none⟩
noncomputable def zhD:AFrame:=⟨43,225,(tW (tX (tX (tX (tX (tX (tX tZ (tY (.int .i64 k2))) tZ) (tX (tX tZ (tY (.ptr p 0 0))) (tX (tY (.bool true)) tZ))) (tX (tX (tX tZ (tY (.ptr p 0 0))) tZ) (tX tZ (tX (tY (.ptr i1 i2 i3)) tZ)))) (tX (tX (tX (tX tZ (tY (.int .i64 j))) tZ) (tX (tX tZ (tY (.int .i64 j))) (tX (tY (.ptr p 0 0)) tZ))) (tX (tX (tX tZ (tY (.int .i64 (IntKind.i64.wrap (j - (1:Int)))))) (tX (tY (.ptr p 0 0)) tZ)) (tX tZ (tX (tY (.int .i64 k2)) tZ))))) (tW (tX (tX (tX (tX tZ (tY (.bool (k2==(1:Int))))) tZ) (tX (tX tZ (tY (.ptr p 0 3))) tZ)) (tX (tX (tX tZ (tY sa)) (tX (tY (.int .i64 j)) tZ)) (tX tZ (tX (tY (.ptr q 0 0)) tZ)))) (.int .i64 j) (tX (tX (tX (tX tZ (tY (.bool true))) tZ) (tX (tX tZ (tY s2)) (tX (tY sa) tZ))) (tX (tX (tX tZ (tY s1)) (tX (tY sa) tZ)) (tX tZ (tX (tY (.bool (k2==(9:Int)))) tZ)))))) (.ptr p 0 0) (tX (tX (tX (tX (tX (tX tZ (tY (.bool (k2==(1:Int))))) tZ) (tX (tX tZ (tY (.ptr p 0 0))) tZ)) (tX (tX (tX tZ (tY (.ptr p 0 3))) tZ) (tX tZ (tX (tY (.ptr q 0 0)) tZ)))) (tX (tX (tX (tX tZ (tY (.bool (decide (j > (0:Int)))))) tZ) (tX (tX tZ (tY (.ptr i7 i8 i9))) (tX (tY (.ptr p 0 3)) tZ))) (tX (tX (tX tZ (tY (.ptr i4 i5 i6))) (tX (tY (.ptr p 0 3)) tZ)) (tX tZ (tX (tY (.int .i64 k2)) tZ))))) (tW (tX (tX (tX (tX tZ (tY (.bool false))) tZ) (tX (tX tZ (tY sa)) (tX (tY (.ptr p 0 0)) tZ))) (tX (tX (tX tZ (tY (.int .i64 j))) (tX (tY (.ptr p 0 0)) tZ)) (tX tZ (tX (tY (.ptr q 0 0)) tZ)))) (.int .i64 k2) (tX (tX (tX (tX tZ (tY (.ptr p 0 0))) tZ) (tX tZ (tX (tY (.int .i64 j)) tZ))) (tX (tX tZ (tX (tY (.int .i64 z1)) tZ)) (tX tZ (tX (tY (.bool false)) tZ))))))),   [.drw (rg P 43 [1,1,1,1,0,1,0,1,1,1,1,1,1,1,0,0,1,0,0,1,0,0,1,0]) [18,26,27,28,29,30] [25,24,23,22,21,20,19,17,16,15,14,13,12,11,10,9,8,7,6,5,4,3,2,1,0],.code (cd P 43 [1,1,1,1,0,1,0,1,1,1,1,1,1,1,0,0,1,0,0,1,0,0,1,1]),.inBlock 6,.code (cd P 43 [1,1,1,1,0,1,0,1,1,1,1,1,1,1,0,0,1,0,0,1,1]),.inLoop (cd P (43:FuncId) [1,1,1,1,0,1,0,1,1,1,1,1,1,1,0,0,1,0,0]),.inBlock 5,.code (cd P (43:FuncId) [1,1,1,1,0,1,0,1,1,1,1,1,1,1,0,1]),.inBlock 2,.code (cd P (43:FuncId) [1,1,1,1,1])],[],.run,CallKind.normal,none⟩
noncomputable def za2:AFrame:=⟨43,225,(tW (tX (tX (tX (tX (tX (tX tZ (tY (.int .i64 k2))) tZ) (tX (tX tZ (tY (.ptr p 0 0))) (tX (tY (.bool true)) tZ))) (tX (tX (tX tZ (tY (.ptr p 0 0))) tZ) (tX tZ (tX (tY (.ptr i1c i2c i3c)) tZ)))) (tX (tX (tX (tX tZ (tY (.int .i64 j))) tZ) (tX (tX tZ (tY (.int .i64 j))) (tX (tY (.ptr p 0 0)) tZ))) (tX (tX (tX tZ (tY (.int .i64 (IntKind.i64.wrap (j - (1:Int)))))) (tX (tY (.ptr p 0 0)) tZ)) (tX tZ (tX (tY (.int .i64 k2)) tZ))))) (tW (tX (tX (tX (tX tZ (tY (.bool (k2==(1:Int))))) tZ) (tX (tX tZ (tY (.ptr p 0 3))) tZ)) (tX (tX (tX tZ (tY sa)) (tX (tY (.int .i64 j)) tZ)) (tX tZ (tX (tY (.ptr q 0 0)) tZ)))) (.int .i64 j) (tX (tX (tX (tX tZ (tY (.bool true))) tZ) (tX (tX tZ (tY s2c)) (tX (tY sa) tZ))) (tX (tX (tX tZ (tY s1c)) (tX (tY sa) tZ)) (tX tZ (tX (tY (.bool (k2==(9:Int)))) tZ)))))) (.ptr p 0 0) (tX (tX (tX (tX (tX (tX tZ (tY (.bool (k2==(1:Int))))) tZ) (tX (tX tZ (tY (.ptr p 0 0))) tZ)) (tX (tX (tX tZ (tY (.ptr p 0 3))) tZ) (tX tZ (tX (tY (.ptr q 0 0)) tZ)))) (tX (tX (tX (tX tZ (tY (.bool (decide (j > (0:Int)))))) tZ) (tX (tX tZ (tY (.ptr i7c i8c i9c))) (tX (tY (.ptr p 0 3)) tZ))) (tX (tX (tX tZ (tY (.ptr i4c i5c i6c))) (tX (tY (.ptr p 0 3)) tZ)) (tX tZ (tX (tY (.int .i64 k2)) tZ))))) (tW (tX (tX (tX (tX tZ (tY (.bool false))) tZ) (tX (tX tZ (tY sa)) (tX (tY (.ptr p 0 0)) tZ))) (tX (tX (tX tZ (tY (.int .i64 j))) (tX (tY (.ptr p 0 0)) tZ)) (tX tZ (tX (tY (.ptr q 0 0)) tZ)))) (.int .i64 k2) (tX (tX (tX (tX tZ (tY (.ptr p 0 0))) tZ) (tX tZ (tX (tY (.int .i64 j)) tZ))) (tX (tX (tX tZ (tY (.str wa))) (tX (tY (.int .i64 z1c)) tZ)) (tX tZ (tX (tY (.bool false)) tZ))))))),   [.drw (rg P (43:FuncId) [1,1,1,1,0,1,0,1,1,1,1,1,1,1,0,0,1,0,0,1,0,0,1,0]) [26,27,28,29,30] [18,25,24,23,22,21,20,19,17,16,15,14,13,12,11,10,9,8,7,6,5,4,3,2,1,0],.code (cd P (43:FuncId) [1,1,1,1,0,1,0,1,1,1,1,1,1,1,0,0,1,0,0,1,0,0,1,1]),.inBlock 6,.code (cd P (43:FuncId) [1,1,1,1,0,1,0,1,1,1,1,1,1,1,0,0,1,0,0,1,1]),.inLoop (cd P (43:FuncId) [1,1,1,1,0,1,0,1,1,1,1,1,1,1,0,0,1,0,0]),.inBlock 5,.code (cd P (43:FuncId) [1,1,1,1,0,1,0,1,1,1,1,1,1,1,0,1]),.inBlock 2,.code (cd P (43:FuncId) [1,1,1,1,1])],[],.run,CallKind.normal,none⟩
noncomputable def vD:AFrame:=⟨43,225,(tW (tX (tX (tX (tX (tX (tX tZ (tY (.int .i64 k2))) tZ) (tX (tX tZ (tY (.ptr p 0 0))) (tX (tY (.bool true)) tZ))) (tX (tX (tX tZ (tY (.ptr p 0 0))) tZ) (tX tZ (tX (tY (.ptr i1c i2c i3c)) tZ)))) (tX (tX (tX (tX tZ (tY (.int .i64 j))) tZ) (tX (tX tZ (tY (.int .i64 j))) (tX (tY (.ptr p 0 0)) tZ))) (tX (tX (tX tZ (tY (.int .i64 (IntKind.i64.wrap (j - (1:Int)))))) (tX (tY (.ptr p 0 0)) tZ)) (tX tZ (tX (tY (.int .i64 k2)) tZ))))) (tW (tX (tX (tX (tX tZ (tY (.bool (k2==(1:Int))))) tZ) (tX (tX tZ (tY (.ptr p 0 3))) tZ)) (tX (tX (tX tZ (tY sa)) (tX (tY (.int .i64 j)) tZ)) (tX tZ (tX (tY (.ptr q 0 0)) tZ)))) (.int .i64 j) (tX (tX (tX (tX tZ (tY (.bool true))) tZ) (tX (tX tZ (tY s2c)) (tX (tY sa) tZ))) (tX (tX (tX tZ (tY s1c)) (tX (tY sa) tZ)) (tX tZ (tX (tY (.bool (k2==(9:Int)))) tZ)))))) (.ptr p 0 0) (tX (tX (tX (tX (tX (tX tZ (tY (.bool (k2==(1:Int))))) tZ) (tX (tX tZ (tY (.ptr p 0 0))) tZ)) (tX (tX (tX tZ (tY (.ptr p 0 3))) tZ) (tX tZ (tX (tY (.ptr q 0 0)) tZ)))) (tX (tX (tX (tX tZ (tY (.bool (decide (j > (0:Int)))))) tZ) (tX (tX tZ (tY (.ptr i7c i8c i9c))) (tX (tY (.ptr p 0 3)) tZ))) (tX (tX (tX tZ (tY (.ptr i4c i5c i6c))) (tX (tY (.ptr p 0 3)) tZ)) (tX tZ (tX (tY (.int .i64 k2)) tZ))))) (tW (tX (tX (tX (tX tZ (tY (.bool false))) tZ) (tX (tX tZ (tY sa)) (tX (tY (.ptr p 0 0)) tZ))) (tX (tX (tX tZ (tY (.int .i64 j))) (tX (tY (.ptr p 0 0)) tZ)) (tX tZ (tX (tY (.ptr q 0 0)) tZ)))) (.int .i64 k2) (tX (tX (tX (tX tZ (tY (.ptr p 0 0))) tZ) (tX (tX tZ (tY (.str wb))) (tX (tY (.int .i64 j)) tZ))) (tX (tX (tX tZ (tY (.str wa))) (tX (tY (.int .i64 z1c)) tZ)) (tX tZ (tX (tY (.bool false)) tZ))))))),   [.drw (rg P (43:FuncId) [1,1,1,1,0,1,0,1,1,1,1,1,1,1,0,0,1,0,0,1,0,0,1,0]) [27,28,29,30] [26,18,25,24,23,22,21,20,19,17,16,15,14,13,12,11,10,9,8,7,6,5,4,3,2,1,0],.code (cd P (43:FuncId) [1,1,1,1,0,1,0,1,1,1,1,1,1,1,0,0,1,0,0,1,0,0,1,1]),.inBlock 6,.code (cd P (43:FuncId) [1,1,1,1,0,1,0,1,1,1,1,1,1,1,0,0,1,0,0,1,1]),.inLoop (cd P (43:FuncId) [1,1,1,1,0,1,0,1,1,1,1,1,1,1,0,0,1,0,0]),.inBlock 5,.code (cd P (43:FuncId) [1,1,1,1,0,1,0,1,1,1,1,1,1,1,0,1]),.inBlock 2,.code (cd P (43:FuncId) [1,1,1,1,1])],[],.run,CallKind.normal,none⟩
end
section
variable {R:AV→AHeap→Prop} {keep N p i1c i2c i3c i4c i5c i6c i1cc i2cc i3cc q i7c i8c i9c:Nat} {f0:FuncId} {rest:List AFrame} {O:T AObj} {k j z1c k2:Int} {nm l1c l1cc l2c wa wb:List UInt8} {sn sa rp s1c s2c:AV} {G:T (T AV)} {K:AM→Prop} {td:List AItem} {br0 br1 br2:Bool}
theorem t_may:((lC O N G p 0 (.int .i64 k))∧((decide (k<(1:Int)))=true→(K (AM.mk (RF 43 225 (tX tZ (tY (.bool false))) [.code (cd P 43 [1,0,1,0,1]),.code (cd P 43 [1,1])]) rest ⟨O,N,G⟩)))∧((decide (k<(1:Int)))=false→((lC O N G p 0 (.int .i64 k))∧((decide (k > (9:Int)))=true→(K (AM.mk (RF 43 225 (tX tZ (tY (.bool false))) [.code (cd P 43 [1,0,1,0,1]),.code (cd P 43 [1,1])]) rest ⟨O,N,G⟩)))∧((decide (k > (9:Int)))=false→((lC O N G p 1 (.str nm))∧(lC O N G p 0 (.int .i64 k))∧(((!(!nm==([]:List UInt8))==(k==(6:Int))))=true→(K (AM.mk (RF 43 225 (tX tZ (tY (.bool false))) [.code (cd P 43 [1,0,1,0,1]),.code (cd P 43 [1,1,1])]) rest ⟨O,N,G⟩)))∧(((!(!nm==([]:List UInt8))==(k==(6:Int))))=false→(∃ (z1:Int),(lC O N G p 2 sn)∧(lN O N G 32 sn z1)∧((decide (z1 > (0:Int)))=true→((lC O N G p 0 (.int .i64 k))∧(((k != (7:Int)))=true→(K (AM.mk (RF 43 225 (tX tZ (tY (.bool false))) [.code (cd P 43 [1,0,1,0,1]),.code (cd P 43 [1,1,1])]) rest ⟨O,N,G⟩)))∧(((k != (7:Int)))=false→(∃ (z2:Int),(lC O N G p 3 sa)∧(lN O N G 33 sa z2)∧((decide (z2 > (0:Int)))=true→((lC O N G p 0 (.int .i64 k))∧((decide (k<(7:Int)))=true→(K (AM.mk (RF 43 225 (tX tZ (tY (.bool false))) [.code (cd P 43 [1,0,1,0,1]),.code (cd P 43 [1,1,1])]) rest ⟨O,N,G⟩)))∧((decide (k<(7:Int)))=false→(∃ (b1:Bool),(lC O N G p 4 rp)∧(w5 P (⟨O,N,G⟩) (BinOp.neq) (23) (true) (rp) (.nilp)=(some (.bool b1)))∧(lC O N G p 0 (.int .i64 k))∧(((!b1==(k==(8:Int))))=true→(K (AM.mk (RF 43 225 (tX tZ (tY (.bool false))) [.code (cd P 43 [1,0,1,0,1]),.code (cd P 43 [1,1,1])]) rest ⟨O,N,G⟩)))∧(((!b1==(k==(8:Int))))=false→(K (Wma p 0 rest O N G)))))))∧((decide (z2 > (0:Int)))=false→(∃ (b1:Bool),(lC O N G p 4 rp)∧(w5 P (⟨O,N,G⟩) (BinOp.neq) (23) (true) (rp) (.nilp)=(some (.bool b1)))∧(lC O N G p 0 (.int .i64 k))∧(((!b1==(k==(8:Int))))=true→(K (AM.mk (RF 43 225 (tX tZ (tY (.bool false))) [.code (cd P 43 [1,0,1,0,1]),.code (cd P 43 [1,1,1])]) rest ⟨O,N,G⟩)))∧(((!b1==(k==(8:Int))))=false→(K (Wma p 0 rest O N G)))))))))∧((decide (z1 > (0:Int)))=false→(∃ (z2:Int),(lC O N G p 3 sa)∧(lN O N G 33 sa z2)∧((decide (z2 > (0:Int)))=true→((lC O N G p 0 (.int .i64 k))∧((decide (k<(7:Int)))=true→(K (AM.mk (RF 43 225 (tX tZ (tY (.bool false))) [.code (cd P 43 [1,0,1,0,1]),.code (cd P 43 [1,1,1])]) rest ⟨O,N,G⟩)))∧((decide (k<(7:Int)))=false→(∃ (b1:Bool),(lC O N G p 4 rp)∧(w5 P (⟨O,N,G⟩) (BinOp.neq) (23) (true) (rp) (.nilp)=(some (.bool b1)))∧(lC O N G p 0 (.int .i64 k))∧(((!b1==(k==(8:Int))))=true→(K (AM.mk (RF 43 225 (tX tZ (tY (.bool false))) [.code (cd P 43 [1,0,1,0,1]),.code (cd P 43 [1,1,1])]) rest ⟨O,N,G⟩)))∧(((!b1==(k==(8:Int))))=false→(K (Wma p 0 rest O N G)))))))∧((decide (z2 > (0:Int)))=false→(∃ (b1:Bool),(lC O N G p 4 rp)∧(w5 P (⟨O,N,G⟩) (BinOp.neq) (23) (true) (rp) (.nilp)=(some (.bool b1)))∧(lC O N G p 0 (.int .i64 k))∧(((!b1==(k==(8:Int))))=true→(K (AM.mk (RF 43 225 (tX tZ (tY (.bool false))) [.code (cd P 43 [1,0,1,0,1]),.code (cd P 43 [1,1,1])]) rest ⟨O,N,G⟩)))∧(((!b1==(k==(8:Int))))=false→(K (Wma p 0 rest O N G))))))))))))))=OT f0 R keep K (.seq [.run 13,.hop (.int .i64 k) O,.run 3] (.fork 16 (.seq [.run 13,.keep [2]] .fin) (.seq [.run 3,.hop (.int .i64 k) O,.run 3] (.fork 22 (.seq [.run 6,.keep [2]] .fin) (.seq [.run 8,.hop (.str nm) O,.run 4,.hop (.int .i64 k) O,.run 3] (.fork 34 (.seq [.run 49,.keep [2]] .fin) (.ex fun z1:Int=>(.seq [.run 3,.hop (sn) O,.hopn (.int .i64 z1) O (N),.run 2] (.fork 41 (.seq [.run 3,.hop (.int .i64 k) O,.run 4] (.fork 49 (.seq [.run 34,.keep [2]] .fin) (.ex fun z2:Int=>(.seq [.run 3,.hop (sa) O,.hopn (.int .i64 z2) O (N),.run 2] (.fork 56 (.seq [.run 3,.hop (.int .i64 k) O,.run 4] (.fork 64 (.seq [.run 19,.keep [2]] .fin) (.ex fun b1:Bool=>(.seq [.run 3,.hop (rp) O,.hop (.bool b1) O,.run 3,.hop (.int .i64 k) O,.run 4] (.fork 76 (.seq [.run 6,.keep [2]] .fin) (.seq [.run 9,.keep [0,3]] .fin)))))) (.ex fun b1:Bool=>(.seq [.run 11,.hop (rp) O,.hop (.bool b1) O,.run 3,.hop (.int .i64 k) O,.run 4] (.fork 76 (.seq [.run 6,.keep [2]] .fin) (.seq [.run 9,.keep [0,3]] .fin))))))))) (.ex fun z2:Int=>(.seq [.run 11,.hop (sa) O,.hopn (.int .i64 z2) O (N),.run 2] (.fork 56 (.seq [.run 3,.hop (.int .i64 k) O,.run 4] (.fork 64 (.seq [.run 19,.keep [2]] .fin) (.ex fun b1:Bool=>(.seq [.run 3,.hop (rp) O,.hop (.bool b1) O,.run 3,.hop (.int .i64 k) O,.run 4] (.fork 76 (.seq [.run 6,.keep [2]] .fin) (.seq [.run 9,.keep [0,3]] .fin)))))) (.ex fun b1:Bool=>(.seq [.run 11,.hop (rp) O,.hop (.bool b1) O,.run 3,.hop (.int .i64 k) O,.run 4] (.fork 76 (.seq [.run 6,.keep [2]] .fin) (.seq [.run 9,.keep [0,3]] .fin)))))))))))))))) ((AM.mk (enF 43 [.ptr p 0 0]) rest ⟨O,N,G⟩)):=by kernel_rfl
theorem zgB:(∃ (z1:Int),(lC O N G p 3 sa)∧(lN O N G 33 sa z1)∧((decide (j<z1))=true→(∃ (i1:Nat) (i2:Nat) (i3:Nat) (s1:AV),(lC O N G p 3 sa)∧(iX 33 sa j i1 i2 i3)∧(lR O N G i1 i2 i3 s1)∧K (AM.mk (enF 43 [s1]) ((zqP p j s1)::rest) ⟨O,N,G⟩)))∧((decide (j<z1))=false→((lC O N G p 0 (.int .i64 k))∧(((k==(6:Int)))=true→((lC O N G p 1 (.str nm))∧K (AM.mk (enF 90 [.str nm]) ((zng nm)::rest) ⟨O,N,G⟩)))∧(((k==(6:Int)))=false→((((k==(7:Int)))=true→(∃ (z2:Int) (z3:Int),(lC O N G p 2 sn)∧(lN O N G 32 sn z2)∧(lC O N G p 3 sa)∧(lN O N G 33 sa z3)∧(((z2 != z3))=true→(K (AM.mk (RF 43 225 (tX tZ (tY (.bool false))) [.code (cd P 43 [1,0,1,0,1]),.code (cd P 43 [1,1,1,1,0,1,0,1,1,1,0,1]),.inBlock 2,.code (cd P 43 [1,1,1,1,1])]) rest ⟨O,N,G⟩)))∧(((z2 != z3))=false→(K (Wmb p 0 rest O N G)))))∧(((k==(7:Int)))=false→((((k==(8:Int)))=true→((lC O N G p 4 rp)∧K (AM.mk (enF 43 [rp]) ((zh4 rp)::rest) ⟨O,N,G⟩)))∧(((k==(8:Int)))=false→((((k==(9:Int)))=true→(K (Wmc p 0 rest O N G)))∧(((k==(9:Int)))=false→(K (AM.mk (RF 43 225 (tX tZ (tY (.bool true))) [.code (cd P 43 [1,0,1,0,1])]) rest ⟨O,N,G⟩))))))))))))=OT f0 R keep K (.ex fun z1:Int=>(.seq [.run 7,.hop (sa) O,.hopn (.int .i64 z1) O (N),.run 2] (.fork 83 (.ex fun i1:Nat=>(.ex fun i2:Nat=>(.ex fun i3:Nat=>(.ex fun s1:AV=>(.seq [.run 9,.hop (sa) O,.run 1,.hopn (.ptr i1 i2 i3) O (N),.hop (s1) O,.keep [0,3,92],.run 1] .fin))))) (.seq [.run 8,.hop (.int .i64 k) O,.run 7] (.fork 99 (.seq [.run 6,.hop (.str nm) O,.keep [104],.run 1] .fin) (.seq [.run 6] (.fork 106 (.ex fun z2:Int=>(.ex fun z3:Int=>(.seq [.run 7,.hop (sn) O,.hopn (.int .i64 z2) O (N),.run 3,.hop (sa) O,.hopn (.int .i64 z3) O (N),.run 2] (.fork 118 (.seq [.run 6,.keep [2]] .fin) (.seq [.run 8,.keep [0,4]] .fin))))) (.seq [.run 6] (.fork 160 (.seq [.run 6,.hop (rp) O,.keep [165],.run 1] .fin) (.seq [.run 6] (.fork 167 (.seq [.run 8,.keep [0,5]] .fin) (.seq [.run 8,.keep [2]] .fin)))))))))))) ((Wma p j rest O N G)):=by kernel_rfl
theorem zeQ:((((!br0))=true→(K (AM.mk (RF 43 225 (tX tZ (tY (.bool false))) [.code (cd P 43 [1,0,1,0,1]),.inBlock 1,.code (cd P (43:FuncId) [1,1,1,0,1,0,0,1,1]),.inLoop (cd P (43:FuncId) [1,1,1,0,1,0,0]),.inBlock 0,.code (cd P (43:FuncId) [1,1,1,1])]) rest ⟨O,N,G⟩)))∧(((!br0))=false→(K (Wma p (IntKind.i64.wrap (j+(1:Int))) rest O N G))))=OT f0 R keep K (.seq [.run 3] (.fork 94 (.seq [.run 6,.keep [2]] .fin) (.seq [.run 9,.keep [0,3]] .fin))) ((AM.mk (RF 43 225 (tX tZ (tY (.bool br0))) td) ((zqP p j s1c)::rest) ⟨O,N,G⟩)):=by kernel_rfl
theorem ziC:(K (AM.mk (RF 43 225 (tX tZ (tY (.bool br0))) [.code (cd P (43:FuncId) [1,0,1,0,1]),.inBlock 2,.code (cd P (43:FuncId) [1,1,1,1,1])]) rest ⟨O,N,G⟩))=OT f0 R keep K (.seq [.run 4,.keep [2]] .fin) ((AM.mk (RF 90 45 (tX tZ (tY (.bool br0))) td) ((zng nm)::rest) ⟨O,N,G⟩)):=by kernel_rfl
theorem zfl:(K (AM.mk (RF 43 225 (tX tZ (tY (.bool br0))) [.code (cd P (43:FuncId) [1,0,1,0,1]),.inBlock 2,.code (cd P (43:FuncId) [1,1,1,1,1])]) rest ⟨O,N,G⟩))=OT f0 R keep K (.seq [.run 4,.keep [2]] .fin) ((AM.mk (RF 43 225 (tX tZ (tY (.bool br0))) td) ((zh4 rp)::rest) ⟨O,N,G⟩)):=by kernel_rfl
theorem zp7:(∃ (z1:Int),(lC O N G p 2 sn)∧(lN O N G 32 sn z1)∧((decide (j<z1))=true→(∃ (i1:Nat) (i2:Nat) (i3:Nat) (l1:List UInt8),(lC O N G p 2 sn)∧(iX 32 sn j i1 i2 i3)∧(lR O N G i1 i2 i3 (.str l1))∧K (AM.mk (enF 63 [.str l1]) ((zqZ p sn j i1 i2 i3 z1 l1)::rest) ⟨O,N,G⟩)))∧((decide (j<z1))=false→(K (AM.mk (RF 43 225 (tX tZ (tY (.bool true))) [.code (cd P 43 [1,0,1,0,1])]) rest ⟨O,N,G⟩))))=OT f0 R keep K (.ex fun z1:Int=>(.seq [.run 7,.hop (sn) O,.hopn (.int .i64 z1) O (N),.run 2] (.fork 125 (.ex fun i1:Nat=>(.ex fun i2:Nat=>(.ex fun i3:Nat=>(.ex fun l1:List UInt8=>(.seq [.run 9,.hop (sn) O,.run 1,.hopn (.ptr i1 i2 i3) O (N),.hop (.str l1) O,.run 1] .fin))))) (.seq [.run 8,.keep [2]] .fin)))) ((Wmb p j rest O N G)):=by kernel_rfl
theorem zbl:((((!br0))=true→(K (AM.mk (RF 43 225 (tX tZ (tY (.bool false))) [.code (cd P 63 [1,0,1,0,1]),.inBlock 4,.code (cd P (43:FuncId) [1,1,1,1,0,1,0,1,1,1,0,1,1,0,0,1,1]),.inLoop (cd P (43:FuncId) [1,1,1,1,0,1,0,1,1,1,0,1,1,0,0]),.inBlock 3,.inBlock 2,.code (cd P (43:FuncId) [1,1,1,1,1])]) rest ⟨O,N,G⟩)))∧(((!br0))=false→(((decide (j > (0:Int)))=true→(∃ (i1:Nat) (i2:Nat) (i3:Nat) (l1:List UInt8) (i4:Nat) (i5:Nat) (i6:Nat) (l2:List UInt8),(lC O N G p 2 sn)∧(zq P (32) (sn) (.int .i64 (IntKind.i64.wrap (j - (1:Int))))=(some (.ptr i1 i2 i3)))∧(lR O N G i1 i2 i3 (.str l1))∧(lC O N G p 2 sn)∧(iX 32 sn j i4 i5 i6)∧(lR O N G i4 i5 i6 (.str l2))∧K (AM.mk (enF 64 [.str l1,.str l2]) ((zcN p sn j i1 i2 i3 i4 i5 i6 l1 l2 z1c l1c i1c i2c i3c br0)::rest) ⟨O,N,G⟩)))∧((decide (j > (0:Int)))=false→(K (Wmb p (IntKind.i64.wrap (j+(1:Int))) rest O N G))))))=OT f0 R keep K (.seq [.run 3] (.fork 137 (.seq [.run 29,.keep [2]] .fin) (.seq [.run 3] (.fork 140 (.ex fun i1:Nat=>(.ex fun i2:Nat=>(.ex fun i3:Nat=>(.ex fun l1:List UInt8=>(.ex fun i4:Nat=>(.ex fun i5:Nat=>(.ex fun i6:Nat=>(.ex fun l2:List UInt8=>(.seq [.run 3,.hop (sn) O,.run 2,.hopn (.ptr i1 i2 i3) O (N),.hop (.str l1) O,.run 3,.hop (sn) O,.run 1,.hopn (.ptr i4 i5 i6) O (N),.hop (.str l2) O,.run 1] .fin))))))))) (.seq [.run 29,.keep [0,4]] .fin))))) ((AM.mk (RF 63 41 (tX tZ (tY (.bool br0))) td) ((zqZ p sn j i1c i2c i3c z1c l1c)::rest) ⟨O,N,G⟩)):=by kernel_rfl
theorem vv:((((!br1))=true→(K (AM.mk (RF 43 225 (tX tZ (tY (.bool false))) [.code (cd P 64 [1,0,1,0,0,1,0,0,1,0,1]),.inBlock 4,.code (cd P (43:FuncId) [1,1,1,1,0,1,0,1,1,1,0,1,1,0,0,1,1]),.inLoop (cd P (43:FuncId) [1,1,1,1,0,1,0,1,1,1,0,1,1,0,0]),.inBlock 3,.inBlock 2,.code (cd P (43:FuncId) [1,1,1,1,1])]) rest ⟨O,N,G⟩)))∧(((!br1))=false→(K (Wmb p (IntKind.i64.wrap (j+(1:Int))) rest O N G))))=OT f0 R keep K (.seq [.run 5] (.fork 159 (.seq [.run 6,.keep [2]] .fin) (.seq [.run 9,.keep [0,4]] .fin))) ((AM.mk (RF 64 37 (tX tZ (tX (tY (.bool br1)) tZ)) td) ((zcN p sn j i1cc i2cc i3cc i4c i5c i6c l1cc l2c z1c l1c i1c i2c i3c br0)::rest) ⟨O,N,G⟩)):=by kernel_rfl
theorem zk6:(∃ (z1:Int),(lC O N G p 3 sa)∧(lN O N G 33 sa z1)∧((decide (j<z1))=true→(∃ (i1:Nat) (i2:Nat) (i3:Nat),(lC O N G p 3 sa)∧(iX 33 sa j i1 i2 i3)∧(lR O N G i1 i2 i3 (.ptr q 0 0))∧(lC O N G q 0 (.int .i64 k2))∧(((k2==(9:Int)))=true→(K (AM.mk (RF 43 225 (tX tZ (tY (.bool false))) [.code (cd P 43 [1,0,1,0,1]),.inBlock 6,.code (cd P 43 [1,1,1,1,0,1,0,1,1,1,1,1,1,1,0,0,1,0,0,1,1]),.inLoop (cd P (43:FuncId) [1,1,1,1,0,1,0,1,1,1,1,1,1,1,0,0,1,0,0]),.inBlock 5,.code (cd P (43:FuncId) [1,1,1,1,0,1,0,1,1,1,1,1,1,1,0,1]),.inBlock 2,.code (cd P (43:FuncId) [1,1,1,1,1])]) rest ⟨O,N,G⟩)))∧(((k2==(9:Int)))=false→((((k2==(1:Int)))=true→(K (AM.mk (RF 43 225 (tX tZ (tY (.bool false))) [.code (cd P 43 [1,0,1,0,1]),.inBlock 6,.code (cd P 43 [1,1,1,1,0,1,0,1,1,1,1,1,1,1,0,0,1,0,0,1,1]),.inLoop (cd P (43:FuncId) [1,1,1,1,0,1,0,1,1,1,1,1,1,1,0,0,1,0,0]),.inBlock 5,.code (cd P (43:FuncId) [1,1,1,1,0,1,0,1,1,1,1,1,1,1,0,1]),.inBlock 2,.code (cd P (43:FuncId) [1,1,1,1,1])]) rest ⟨O,N,G⟩)))∧(((k2==(1:Int)))=false→(((decide (j > (0:Int)))=true→(∃ (i4:Nat) (i5:Nat) (i6:Nat) (s1:AV) (i7:Nat) (i8:Nat) (i9:Nat) (s2:AV),(lC O N G p 3 sa)∧(zq P (33) (sa) (.int .i64 (IntKind.i64.wrap (j - (1:Int))))=(some (.ptr i4 i5 i6)))∧(lR O N G i4 i5 i6 s1)∧(lC O N G p 3 sa)∧(iX 33 sa j i7 i8 i9)∧(lR O N G i7 i8 i9 s2)∧K (AM.mk (enF 48 [s1]) ((zhD p q k2 sa j i1 i2 i3 i4 i5 i6 i7 i8 i9 s1 s2 z1)::rest) ⟨O,N,G⟩)))∧((decide (j > (0:Int)))=false→(K (Wmc p (IntKind.i64.wrap (j+(1:Int))) rest O N G)))))))))∧((decide (j<z1))=false→(∃ (z2:Int),(lC O N G p 3 sa)∧(lN O N G 33 sa z2)∧K (AM.mk (RF 43 225 (tX tZ (tY (.bool (decide (z2≥(2:Int)))))) [.code (cd P 43 [1,0,1,0,1]),.inBlock 2,.code (cd P (43:FuncId) [1,1,1,1,1])]) rest ⟨O,N,G⟩))))=OT f0 R keep K (.ex fun z1:Int=>(.seq [.run 7,.hop (sa) O,.hopn (.int .i64 z1) O (N),.run 2] (.fork 175 (.ex fun i1:Nat=>(.ex fun i2:Nat=>(.ex fun i3:Nat=>(.seq [.run 9,.hop (sa) O,.run 1,.hopn (.ptr i1 i2 i3) O (N),.hop (.ptr q 0 0) O,.run 2,.hop (.int .i64 k2) O,.run 7] (.fork 190 (.seq [.run 35,.keep [2]] .fin) (.seq [.run 4] (.fork 194 (.seq [.run 31,.keep [2]] .fin) (.seq [.run 3] (.fork 197 (.ex fun i4:Nat=>(.ex fun i5:Nat=>(.ex fun i6:Nat=>(.ex fun s1:AV=>(.ex fun i7:Nat=>(.ex fun i8:Nat=>(.ex fun i9:Nat=>(.ex fun s2:AV=>(.seq [.run 3,.hop (sa) O,.run 2,.hopn (.ptr i4 i5 i6) O (N),.hop (s1) O,.run 3,.hop (sa) O,.run 1,.hopn (.ptr i7 i8 i9) O (N),.hop (s2) O,.run 1] .fin))))))))) (.seq [.run 31,.keep [0,5]] .fin)))))))))) (.ex fun z2:Int=>(.seq [.run 7,.hop (sa) O,.hopn (.int .i64 z2) O (N),.run 4,.keep [2]] .fin))))) ((Wmc p j rest O N G)):=by kernel_rfl
theorem zeC:((True)∧(lR O N G i7c i8c i9c s2c)∧(okD 300 s2c=true)∧(lC O N G p 3 sa)∧(okD 300 sa=true)∧K (AM.mk (enF 48 [s2c]) ((za2 p q k2 sa j z1c s1c wa i1c i2c i3c i4c i5c i6c i7c i8c i9c s2c)::rest) ⟨O,N,G⟩))=OT f0 R keep K (.seq [.hret [.nilp],.run 1] .fin) ((AM.mk (RF 48 146 (tX tZ (tY (.str wa))) td) ((zhD p q k2 sa j i1c i2c i3c i4c i5c i6c i7c i8c i9c s1c s2c z1c)::rest) ⟨O,N,G⟩)):=by kernel_rfl
theorem zbv:(K (AM.mk (enF 64 [.str wa,.str wb]) ((vD p q k2 sa j z1c s1c wa wb i1c i2c i3c i4c i5c i6c i7c i8c i9c s2c)::rest) ⟨O,N,G⟩))=OT f0 R keep K (.seq [.run 2] .fin) ((AM.mk (RF 48 146 (tX tZ (tY (.str wb))) td) ((za2 p q k2 sa j z1c s1c wa i1c i2c i3c i4c i5c i6c i7c i8c i9c s2c)::rest) ⟨O,N,G⟩)):=by kernel_rfl
theorem y0:((((!br2))=true→(K (AM.mk (RF 43 225 (tX tZ (tY (.bool false))) [.code (cd P 64 [1,0,1,0,0,1,0,0,1,0,1]),.inBlock 6,.code (cd P (43:FuncId) [1,1,1,1,0,1,0,1,1,1,1,1,1,1,0,0,1,0,0,1,1]),.inLoop (cd P (43:FuncId) [1,1,1,1,0,1,0,1,1,1,1,1,1,1,0,0,1,0,0]),.inBlock 5,.code (cd P (43:FuncId) [1,1,1,1,0,1,0,1,1,1,1,1,1,1,0,1]),.inBlock 2,.code (cd P (43:FuncId) [1,1,1,1,1])]) rest ⟨O,N,G⟩)))∧(((!br2))=false→(K (Wmc p (IntKind.i64.wrap (j+(1:Int))) rest O N G))))=OT f0 R keep K (.seq [.run 5] (.fork 218 (.seq [.run 6,.keep [2]] .fin) (.seq [.run 9,.keep [0,5]] .fin))) ((AM.mk (RF 64 37 (tX tZ (tX (tY (.bool br2)) tZ)) td) ((vD p q k2 sa j z1c s1c wa wb i1c i2c i3c i4c i5c i6c i7c i8c i9c s2c)::rest) ⟨O,N,G⟩)):=by kernel_rfl
theorem t_mno:(K (AM.mk (RF 43 225 (tX tZ (tY (.bool false))) [.code (cd P 43 [1,0,1,0,1]),.code (cd P 43 [1,1])]) rest ⟨O,N,G⟩))=OT f0 R keep K (.seq [.run 30,.keep [2]] .fin) ((AM.mk (enF 43 [.nilp]) rest ⟨O,N,G⟩)):=by kernel_rfl
end
variable {O O':T AObj} {N:Nat} {G:T (T AV)}
def MC (G:T (T AV)) (t:Ty):Prop:=∀ (keep:Nat) (f0:FuncId) (Q:AV→AHeap→Prop) (hi:Nat) (p:Option Nat) (rest:List AFrame) (O:T AObj) (N:Nat),Tr O hi t p→hi≤N →
 (∀ O' N' td,Ext O N O' N'→Goal P keep f0 Q (AM.mk (RF 43 225 (tX tZ (tY (.bool (okT t)))) td) rest ⟨O',N',G⟩))→Goal P keep f0 Q (AM.mk (enF 43 [pv p]) rest ⟨O,N,G⟩)
theorem zlG {l:List (List UInt8)}{i:Nat}{a b:List UInt8}(ha:l[i]?=some a)(hb:l[i+1]?=some b):zaC (l.drop i)=(Op.bytesLess a b&&zaC (l.drop (i+1))):=by
 rw [zk ha,zk hb]; rfl
theorem zhC {l:List (List UInt8)}{i:Nat}(h:l.length≤i+1):zaC (l.drop i)=true:=by
 cases e:l.drop i with
 | nil=>rfl
 | cons a r =>
  have:=congrArg List.length e
  rw [List.length_drop,List.length_cons] at this
  cases r with
  | nil=>rfl
  | cons b r=>simp only [List.length_cons] at this; omega
theorem zku:∀ (m:Nat) (t:Ty),cnt t≤m∧cnt t≤60→MC G t
 | m,.no,hm=>by
  intro keep f0 Q hi p rest O N ht hN hK
  have hp:p=none:=(ht.isNo.1).2 rfl
  subst hp
  rw [ye] at hK
  exact (ot t_mno (hK O N _ Ext.refl))
 | 0,.mk k nm ns ts r,hm=>by rw [xj] at hm; omega
 | m+1,.mk k nm ns ts r,hm=>by
  intro keep f0 Q hi p rest O N ht hN hK
  obtain ⟨id,sn,sa,ps,q,rfl,i1',i2',i3',i4',i5',i6',i7',i8',i9'⟩:=ht.inv
  rw [xj] at hm
  rw [zkY,zdV] at hK
  have hgo:own k nm ns ts r=true→Goal P keep f0 Q (Wma id 0 rest O N G):=by
   intro hw
   have hf:=yP hw
   rw [hw,Bool.true_and] at hK
   have kinds:∀ (O2:T AObj) (N2:Nat),Ext O N O2 N2→ts.all okT=true→∀ i,i=ts.length→Goal P keep f0 Q (Wma id ((i:Nat):Int) rest O2 N2 G):=by
    intro O2 N2 ex hall i hi'
    have exle:=ex.1
    have tO2:=i2'.same (ex.2 id (by omega))
    have sO2:=i4'.keep (O':=O2) (fun j _ hj=>ex.2 j (by omega)) (Nat.le_refl 0) (Nat.le_refl hi)
    have nO2:=i3'.keep (O':=O2) (fun j _ hj=>ex.2 j (by omega)) (Nat.le_refl 0) (Nat.le_refl hi)
    rw [hall,Bool.true_and] at hK
    have hok:∀ x∈ts,okT x=true:=List.all_eq_true.1 hall
    have r2:=i9'.same (O':=O2) (fun j hj=>ex.2 j (by omega)) (Nat.le_refl _)
    by_cases k6:k=6
    · have hr:isNo r=true:=by
       cases h:isNo r with
       | true=>rfl
       | false=>have:=(hf.2.1).2 h; omega
      rw [hr,Bool.true_or,Bool.true_and,show okK k nm ns ts=zT nm from by unfold okK; rw [if_pos k6]] at hK
      refine (ot (zgB (k:=k) (nm:=nm) (sn:=.nilp) (sa:=sa) (rp:=.nilp) (j:=((i:Nat):Int))) ⟨((ts.length:Nat):Int),tO2.ld 3 rfl,by rw [← i5']; exact sO2.len pSl _ _,fkf (decide_eq_false (by omega)) ⟨tO2.ld 0 rfl,fkt (beq_iff_eq.2 k6) ⟨tO2.ld 1 rfl,?_⟩⟩⟩)
      refine zp6 nm fun td=>?_
      exact (ot (ziC (br0:=(zT nm))) (hK O2 N2 _ ex))
    have b6:(k==(6:Int))=false:=beq_eq_false_iff_ne.2 k6
    by_cases k7:k=7
    · have hr:isNo r=true:=by
       cases h:isNo r with
       | true=>rfl
       | false=>have:=(hf.2.1).2 h; omega
      rw [hr,Bool.true_or,Bool.true_and,show okK k nm ns ts=(decide (ns.length=ts.length)&&ns.all zh&&zaC ns) from by unfold okK; rw [if_neg k6,if_pos k7]] at hK
      by_cases hl:ns.length=ts.length
      · rw [decide_eq_true hl,Bool.true_and] at hK
        refine (ot (zgB (k:=k) (nm:=[]) (sn:=sn) (sa:=sa) (rp:=.nilp) (j:=((i:Nat):Int))) ⟨((ts.length:Nat):Int),tO2.ld 3 rfl,by rw [← i5']; exact sO2.len pSl _ _,fkf (decide_eq_false (by omega)) ⟨tO2.ld 0 rfl,fkf b6 (fkt (beq_iff_eq.2 k7) ⟨((ns.length:Nat):Int),((ts.length:Nat):Int),tO2.ld 2 rfl,nO2.len sSl _ _,tO2.ld 3 rfl,by rw [← i5']; exact sO2.len pSl _ _,fkf (by rw [hl]; exact bne_self_eq_false _) ?_⟩)⟩⟩)
        have loop:∀ (k' i:Nat),i+k'=ns.length→(ns.all zh&&zaC ns)=((ns.drop i).all zh&&zaC (ns.drop (i - 1)))→(∀ s∈ns.take i,zh s=true)→Goal P keep f0 Q (Wmb id ((i:Nat):Int) rest O2 N2 G):=by
         intro k'
         induction k' with
         | zero =>
          intro i hk hv _
          rw [List.drop_of_length_le (l:=ns) (i:=i) (by omega),zhC (by omega)] at hv
          rw [hv] at hK
          exact (ot (zp7 (sn:=sn) (j:=((i:Nat):Int))) ⟨((ns.length:Nat):Int),tO2.ld 2 rfl,nO2.len sSl _ _,fkf (decide_eq_false (by omega)) (hK O2 N2 _ ex)⟩)
         | succ k' ih =>
          intro i hk hv hall'
          obtain ⟨n,hw2,hnm⟩:=nth (l:=ns) (j:=i) (by omega)
          obtain ⟨i1,i2,i3,lo1,hi1,eA,rd,_⟩:=nO2.at sSl sEn hw2
          rw [zk hw2,List.all_cons] at hv
          refine (ot (zp7 (sn:=sn) (j:=((i:Nat):Int))) ⟨((ns.length:Nat):Int),tO2.ld 2 rfl,nO2.len sSl _ _,fkt (decide_eq_true (by omega)) ⟨_,_,_,n,tO2.ld 2 rfl,eA,rd.load rfl _ _,?_⟩⟩)
          refine zor n fun td=>?_
          rcases Bool.eq_false_or_eq_true (zh n) with hfn | hfn
          rotate_left
          · rw [hfn,Bool.false_and,Bool.false_and] at hv
            rw [hv] at hK
            exact (ot (zbl (j:=((i:Nat):Int)) (z1c:=((ns.length:Nat):Int)) (br0:=(zh n))) (fkt (by rw [hfn]; rfl) (hK O2 N2 _ ex)))
          rw [hfn,Bool.true_and] at hv
          have hall2:∀ s∈ns.take (i+1),zh s=true:=by
           intro s hs
           rw [List.take_add_one,hw2] at hs
           rcases List.mem_append.1 hs with h | h
           · exact hall' s h
           · simp at h; rw [h]; exact hfn
          by_cases h0:i=0
          · subst h0
            have nx:=ih 1 (by omega) hv hall2
            exact (ot (zbl (j:=((0:Nat):Int)) (z1c:=((ns.length:Nat):Int)) (br0:=(zh n))) (fkf (by rw [hfn]; rfl) (fkf rfl nx)))
          · obtain ⟨a,ha,_⟩:=nth (l:=ns) (j:=i - 1) (by omega)
            have w1:IntKind.i64.wrap (((i:Nat):Int) - (1:Int))=((i - 1:Nat):Int):=by rw [IntKind.wrap_i64]; omega
            obtain ⟨j1,j2,j3,lo2,hi2,eB,rdB,_⟩:=nO2.at sSl sEn ha
            rw [← w1] at eB
            have hfa:zh a=true:=hall2 a (by
             rw [List.mem_iff_getElem?]
             exact ⟨i - 1,by rw [List.getElem?_take_of_lt (by omega),ha]⟩)
            have la:=yJ hfa
            have lb:=yJ hfn
            refine (ot (zbl (j:=((i:Nat):Int)) (z1c:=((ns.length:Nat):Int)) (br0:=(zh n))) (fkf (by rw [hfn]; rfl) (fkt (decide_eq_true (by omega)) ⟨j1,j2,j3,a,i1,i2,i3,n,tO2.ld 2 rfl,eB,rdB.load rfl _ _,tO2.ld 2 rfl,eA,rd.load rfl _ _,?_⟩)))
            refine zh6 a n (by omega) (by omega) fun td=>?_
            have hr2:zaC (ns.drop (i - 1))=(Op.bytesLess a n&&zaC (ns.drop i)):=by
             have:=zlG ha (b:=n) (by rw [show i - 1+1=i by omega]; exact hw2)
             rw [show i - 1+1=i by omega] at this
             exact this
            rw [hr2] at hv
            rcases Bool.eq_false_or_eq_true (Op.bytesLess a n) with hlt | hlt
            · rw [hlt,Bool.true_and] at hv
              have nx:=ih (i+1) (by omega) (by rw [Nat.add_sub_cancel]; exact hv) hall2
              rw [← zx (i:=i) (by omega)] at nx
              exact (ot (vv (j:=((i:Nat):Int)) (z1c:=((ns.length:Nat):Int)) (br0:=(zh n)) (br1:=(Op.bytesLess a n))) (fkf (by rw [hlt]; rfl) nx))
            · rw [hlt,Bool.false_and,Bool.and_false] at hv
              rw [hv] at hK
              exact (ot (vv (j:=((i:Nat):Int)) (z1c:=((ns.length:Nat):Int)) (br0:=(zh n)) (br1:=(Op.bytesLess a n))) (fkt (by rw [hlt]; rfl) (hK O2 N2 _ ex)))
        exact loop ns.length 0 (Nat.zero_add _) rfl (fun s hs=>by simp at hs)
      · rw [decide_eq_false hl,Bool.false_and,Bool.false_and] at hK
        exact (ot (zgB (k:=k) (nm:=[]) (sn:=sn) (sa:=sa) (rp:=.nilp) (j:=((i:Nat):Int))) ⟨((ts.length:Nat):Int),tO2.ld 3 rfl,by rw [← i5']; exact sO2.len pSl _ _,fkf (decide_eq_false (by omega)) ⟨tO2.ld 0 rfl,fkf b6 (fkt (beq_iff_eq.2 k7) ⟨((ns.length:Nat):Int),((ts.length:Nat):Int),tO2.ld 2 rfl,nO2.len sSl _ _,tO2.ld 3 rfl,by rw [← i5']; exact sO2.len pSl _ _,fkt (bne_iff_ne.2 (by omega)) (hK O2 N2 _ ex)⟩)⟩⟩)
    have b7:(k==(7:Int))=false:=beq_eq_false_iff_ne.2 k7
    by_cases k8:k=8
    · have hr:isNo r=false:=(hf.2.1).1 k8
      rw [hr,Bool.false_or,show okK k nm ns ts=true from by unfold okK; rw [if_neg (by omega),if_neg (by omega),if_neg (by omega)],Bool.and_true] at hK
      refine (ot (zgB (k:=k) (nm:=[]) (sn:=.nilp) (sa:=sa) (rp:=(pv q)) (j:=((i:Nat):Int))) ⟨((ts.length:Nat):Int),tO2.ld 3 rfl,by rw [← i5']; exact sO2.len pSl _ _,fkf (decide_eq_false (by omega)) ⟨tO2.ld 0 rfl,fkf b6 (fkf b7 (fkt (beq_iff_eq.2 k8) ⟨tO2.ld 4 rfl,?_⟩))⟩⟩)
      refine zku m r (by omega) keep f0 Q hi q _ O2 N2 r2 (by omega) fun O3 N3 td ex3=>?_
      exact (ot (zfl (rp:=(pv q)) (br0:=(okT r))) (hK O3 N3 _ (ex.trans ex3)))
    have b8:(k==(8:Int))=false:=beq_eq_false_iff_ne.2 k8
    have hr:isNo r=true:=by
     cases h:isNo r with
     | true=>rfl
     | false=>have:=(hf.2.1).2 h; omega
    rw [hr,Bool.true_or,Bool.true_and] at hK
    by_cases k9:k=9
    · rw [show okK k nm ns ts=(decide (2≤ts.length)&&ts.all (fun x=>!(kd x==9 || kd x==1))&&zaC (ts.map wr)) from by unfold okK; rw [if_neg k6,if_neg k7,if_pos k9]] at hK
      refine (ot (zgB (k:=k) (nm:=[]) (sn:=.nilp) (sa:=sa) (rp:=.nilp) (j:=((i:Nat):Int))) ⟨((ts.length:Nat):Int),tO2.ld 3 rfl,by rw [← i5']; exact sO2.len pSl _ _,fkf (decide_eq_false (by omega)) ⟨tO2.ld 0 rfl,fkf b6 (fkf b7 (fkf b8 (fkt (beq_iff_eq.2 k9) ?_)))⟩⟩)
      have loop:∀ (k' i:Nat) (O3:T AObj) (N3:Nat),i+k'=ts.length→Ext O N O3 N3→(decide (2≤ts.length)&&ts.all (fun x=>!(kd x==9 || kd x==1))&&zaC (ts.map wr))=(decide (2≤ts.length)&&((ts.drop i).all (fun x=>!(kd x==9 || kd x==1))&&zaC ((ts.map wr).drop (i - 1))))→Goal P keep f0 Q (Wmc id ((i:Nat):Int) rest O3 N3 G):=by
       intro k'
       induction k' with
       | zero =>
        intro i O3 N3 hk ex3 hv
        rw [List.drop_of_length_le (l:=ts) (by omega),zhC (by rw [List.length_map]; omega)] at hv
        rw [hv] at hK
        have t3:=i2'.same (ex3.2 id (by omega))
        have s3:=i4'.keep (O':=O3) (fun j _ hj=>ex3.2 j (by omega)) (Nat.le_refl 0) (Nat.le_refl hi)
        simp only [List.all_nil,Bool.true_and,Bool.and_true] at hK
        rw [show decide (2≤ts.length)=decide (((ts.length:Nat):Int)≥2) from by rw [decide_eq_decide]; omega] at hK
        exact (ot (zk6 (q:=0) (k2:=0) (sa:=sa) (j:=((i:Nat):Int))) ⟨((ts.length:Nat):Int),t3.ld 3 rfl,by rw [← i5']; exact s3.len pSl _ _,fkf (decide_eq_false (by omega)) ⟨((ts.length:Nat):Int),t3.ld 3 rfl,by rw [← i5']; exact s3.len pSl _ _,hK O3 N3 _ ex3⟩⟩)
       | succ k' ih =>
        intro i O3 N3 hk ex3 hv
        have n3:=ex3.1
        have t3:=i2'.same (ex3.2 id (by omega))
        have s3:=i4'.keep (O':=O3) (fun j _ hj=>ex3.2 j (by omega)) (Nat.le_refl 0) (Nat.le_refl hi)
        obtain ⟨x,hx,hxm⟩:=nth (l:=ts) (j:=i) (by omega)
        obtain ⟨y,hy',_⟩:=nth (l:=ps) (j:=i) (by omega)
        have hcm:=zA hxm
        have okx:=hok x hxm
        have tx:=(i8' i x y hx hy').same (O':=O3) (fun j hj=>ex3.2 j (by omega)) (Nat.le_refl _)
        obtain ⟨k2,nm2,ns2,ts2,r2',rfl⟩:∃ k2 nm2 ns2 ts2 r2,x=Ty.mk k2 nm2 ns2 ts2 r2:=by
         cases x with
         | no=>rw [ye] at okx; cases okx
         | mk a b c d e=>exact ⟨a,b,c,d,e,rfl⟩
        obtain ⟨q2,_,_,_,_,hyq,qlt,xO,_⟩:=tx.inv
        subst hyq
        rw [zk hx,List.all_cons,show kd (Ty.mk k2 nm2 ns2 ts2 r2')=k2 from rfl] at hv
        obtain ⟨i1,i2,i3,lo1,hi1,eA,rd,_⟩:=s3.at pSl pEn hy'
        rcases Bool.eq_false_or_eq_true (k2==9) with h9 | h9
        · rw [h9,Bool.true_or,Bool.not_true,Bool.false_and,Bool.false_and,Bool.and_false] at hv
          rw [hv] at hK
          exact (ot (zk6 (q:=q2) (k2:=k2) (sa:=sa) (j:=((i:Nat):Int))) ⟨((ts.length:Nat):Int),t3.ld 3 rfl,by rw [← i5']; exact s3.len pSl _ _,fkt (decide_eq_true (by omega)) ⟨_,_,_,t3.ld 3 rfl,eA,rd.load rfl _ _,xO.ld 0 rfl,fkt h9 (hK O3 N3 _ ex3)⟩⟩)
        rcases Bool.eq_false_or_eq_true (k2==1) with h1 | h1
        · rw [h1,Bool.or_true,Bool.not_true,Bool.false_and,Bool.false_and,Bool.and_false] at hv
          rw [hv] at hK
          exact (ot (zk6 (q:=q2) (k2:=k2) (sa:=sa) (j:=((i:Nat):Int))) ⟨((ts.length:Nat):Int),t3.ld 3 rfl,by rw [← i5']; exact s3.len pSl _ _,fkt (decide_eq_true (by omega)) ⟨_,_,_,t3.ld 3 rfl,eA,rd.load rfl _ _,xO.ld 0 rfl,fkf h9 (fkt h1 (hK O3 N3 _ ex3))⟩⟩)
        rw [h9,h1,Bool.or_false,Bool.not_false,Bool.true_and] at hv
        by_cases h0:i=0
        · subst h0
          have nx:=ih 1 O3 N3 (by omega) ex3 hv
          exact (ot (zk6 (q:=q2) (k2:=k2) (sa:=sa) (j:=((0:Nat):Int))) ⟨((ts.length:Nat):Int),t3.ld 3 rfl,by rw [← i5']; exact s3.len pSl _ _,fkt (decide_eq_true (by omega)) ⟨_,_,_,t3.ld 3 rfl,eA,rd.load rfl _ _,xO.ld 0 rfl,fkf h9 (fkf h1 (fkf rfl nx))⟩⟩)
        · obtain ⟨x',hx',hxm'⟩:=nth (l:=ts) (j:=i - 1) (by omega)
          obtain ⟨y',hy2,_⟩:=nth (l:=ps) (j:=i - 1) (by omega)
          have hcm':=zA hxm'
          have w1:IntKind.i64.wrap (((i:Nat):Int) - (1:Int))=((i - 1:Nat):Int):=by rw [IntKind.wrap_i64]; omega
          obtain ⟨j1,j2,j3,lo2,hi2,eB,rdB,_⟩:=s3.at pSl pEn hy2
          rw [← w1] at eB
          have tx':=(i8' (i - 1) x' y' hx' hy2).same (O':=O3) (fun j hj=>ex3.2 j (by omega)) (Nat.le_refl _)
          refine (ot (zk6 (q:=q2) (k2:=k2) (sa:=sa) (j:=((i:Nat):Int))) ⟨((ts.length:Nat):Int),t3.ld 3 rfl,by rw [← i5']; exact s3.len pSl _ _,fkt (decide_eq_true (by omega)) ⟨_,_,_,t3.ld 3 rfl,eA,rd.load rfl _ _,xO.ld 0 rfl,fkf h9 (fkf h1 (fkt (decide_eq_true (by omega)) ⟨j1,j2,j3,(pv y'),i1,i2,i3,(.ptr q2 0 0),t3.ld 3 rfl,eB,rdB.load rfl _ _,t3.ld 3 rfl,eA,rd.load rfl _ _,?_⟩))⟩⟩)
          refine vR (cnt x') x' y' _ O3 N3 ⟨Nat.le_refl _,by omega⟩ (hok x' hxm') tx' (by omega) fun O4 N4 td ex4=>?_
          have n4:=ex4.1
          have t4:=t3.same (ex4.2 id (by omega))
          have s4:=s3.keep (O':=O4) (fun j _ hj=>ex4.2 j (by omega)) (Nat.le_refl 0) (Nat.le_refl hi)
          have rdA4:=rd.same (O':=O4) (ex4.2 _ (by omega))
          have rdB4:=rdB.same (O':=O4) (ex4.2 _ (by omega))
          refine (ot (zeC (j:=((i:Nat):Int)) (z1c:=((ts.length:Nat):Int)) (s1c:=(pv y')) (wa:=(wr x')) (s2c:=(.ptr q2 0 0))) ⟨trivial,rdA4.load rfl _ _,rfl,t4.ld 3 rfl,zbB s4,?_⟩)
          refine vR (cnt (Ty.mk k2 nm2 ns2 ts2 r2')) _ (some q2) _ O4 N4 ⟨Nat.le_refl _,by omega⟩ okx (tx.same (fun j hj=>ex4.2 j (by omega)) (Nat.le_refl _)) (by omega) fun O5 N5 td5 ex5=>?_
          have lx:=x6 okx (by omega)
          have lx':=x6 (hok x' hxm') (by omega)
          refine (ot (zbv (j:=((i:Nat):Int)) (z1c:=((ts.length:Nat):Int)) (s1c:=(pv y')) (wa:=(wr x')) (wb:=(wr (Ty.mk k2 nm2 ns2 ts2 r2'))) (s2c:=(.ptr q2 0 0))) ?_)
          refine zh6 _ _ (by omega) (by omega) fun td6=>?_
          have hr2:zaC ((ts.map wr).drop (i - 1))=(Op.bytesLess (wr x') (wr (Ty.mk k2 nm2 ns2 ts2 r2'))&&zaC ((ts.map wr).drop i)):=by
           have:=zlG (l:=ts.map wr) (i:=i - 1) (a:=wr x') (b:=wr (Ty.mk k2 nm2 ns2 ts2 r2')) (by rw [List.getElem?_map,hx']; rfl) (by rw [show i - 1+1=i by omega,List.getElem?_map,hx]; rfl)
           rw [show i - 1+1=i by omega] at this
           exact this
          rw [hr2] at hv
          rcases Bool.eq_false_or_eq_true (Op.bytesLess (wr x') (wr (Ty.mk k2 nm2 ns2 ts2 r2'))) with hlt | hlt
          · rw [hlt,Bool.true_and] at hv
            have nx:=ih (i+1) O5 N5 (by omega) ((ex3.trans ex4).trans ex5) (by rw [Nat.add_sub_cancel]; exact hv)
            rw [← zx (i:=i) (by omega)] at nx
            exact (ot (y0 (j:=((i:Nat):Int)) (z1c:=((ts.length:Nat):Int)) (s1c:=(pv y')) (wa:=(wr x')) (wb:=(wr (Ty.mk k2 nm2 ns2 ts2 r2'))) (br2:=(Op.bytesLess (wr x') (wr (Ty.mk k2 nm2 ns2 ts2 r2')))) (s2c:=(.ptr q2 0 0))) (fkf (by rw [hlt]; rfl) nx))
          · rw [hlt,Bool.false_and,Bool.and_false,Bool.and_false] at hv
            rw [hv] at hK
            exact (ot (y0 (j:=((i:Nat):Int)) (z1c:=((ts.length:Nat):Int)) (s1c:=(pv y')) (wa:=(wr x')) (wb:=(wr (Ty.mk k2 nm2 ns2 ts2 r2'))) (br2:=(Op.bytesLess (wr x') (wr (Ty.mk k2 nm2 ns2 ts2 r2')))) (s2c:=(.ptr q2 0 0))) (fkt (by rw [hlt]; rfl) (hK O5 N5 _ ((ex3.trans ex4).trans ex5))))
      exact loop ts.length 0 O2 N2 (Nat.zero_add _) ex (by rw [Bool.and_assoc]; rfl)
    have b9:(k==(9:Int))=false:=beq_eq_false_iff_ne.2 k9
    rw [show okK k nm ns ts=true from by unfold okK; rw [if_neg k6,if_neg k7,if_neg k9]] at hK
    exact (ot (zgB (k:=k) (nm:=[]) (sn:=.nilp) (sa:=sa) (rp:=.nilp) (j:=((i:Nat):Int))) ⟨((ts.length:Nat):Int),tO2.ld 3 rfl,by rw [← i5']; exact sO2.len pSl _ _,fkf (decide_eq_false (by omega)) ⟨tO2.ld 0 rfl,fkf b6 (fkf b7 (fkf b8 (fkf b9 (hK O2 N2 _ ex))))⟩⟩)
   have loop:∀ (k' i:Nat) (O2:T AObj) (N2:Nat),i+k'=ts.length→Ext O N O2 N2→ts.all okT=(ts.drop i).all okT→Goal P keep f0 Q (Wma id ((i:Nat):Int) rest O2 N2 G):=by
    intro k'
    induction k' with
    | zero =>
     intro i O2 N2 hk ex hv
     exact kinds O2 N2 ex (by rw [hv,List.drop_of_length_le (by omega)]; rfl) i (by omega)
    | succ k' ih =>
     intro i O2 N2 hk ex hv
     have exle:=ex.1
     have tO2:=i2'.same (ex.2 id (by omega))
     have sO2:=i4'.keep (O':=O2) (fun j _ hj=>ex.2 j (by omega)) (Nat.le_refl 0) (Nat.le_refl hi)
     have nO2:=i3'.keep (O':=O2) (fun j _ hj=>ex.2 j (by omega)) (Nat.le_refl 0) (Nat.le_refl hi)
     obtain ⟨x,hx,hxm⟩:=nth (l:=ts) (j:=i) (by omega)
     obtain ⟨y,hy',_⟩:=nth (l:=ps) (j:=i) (by omega)
     have hcm:=zA hxm
     obtain ⟨i1,i2,i3,lo1,hi1,eA,rd,_⟩:=sO2.at pSl pEn hy'
     rw [zk hx,List.all_cons] at hv
     refine (ot (zgB (k:=0) (nm:=[]) (sn:=.nilp) (sa:=sa) (rp:=.nilp) (j:=((i:Nat):Int))) ⟨((ts.length:Nat):Int),tO2.ld 3 rfl,by rw [← i5']; exact sO2.len pSl _ _,fkt (decide_eq_true (by omega)) ⟨_,_,_,(pv y),tO2.ld 3 rfl,eA,rd.load rfl _ _,?_⟩⟩)
     refine zku m x (by omega) keep f0 Q hi y _ O2 N2 ((i8' i x y hx hy').same (fun j hj=>ex.2 j (by omega)) (Nat.le_refl _)) (by omega) fun O3 N3 td ex3=>?_
     rcases Bool.eq_false_or_eq_true (okT x) with hb | hb
     · rw [hb,Bool.true_and] at hv
       have nx:=ih (i+1) O3 N3 (by omega) (ex.trans ex3) hv
       rw [← zx (i:=i) (by omega)] at nx
       exact (ot (zeQ (j:=((i:Nat):Int)) (s1c:=(pv y)) (br0:=(okT x))) (fkf (by rw [hb]; rfl) nx))
     · rw [hb,Bool.false_and] at hv
       rw [hv,Bool.false_and,Bool.false_and] at hK
       exact (ot (zeQ (j:=((i:Nat):Int)) (s1c:=(pv y)) (br0:=(okT x))) (fkt (by rw [hb]; rfl) (hK O3 N3 _ (ex.trans ex3))))
   exact loop ts.length 0 O N (Nat.zero_add _) Ext.refl (by rw [List.drop_zero])
  have no_own:own k nm ns ts r=false∨k=6∧nm=[]→∀ {td:List AItem},Goal P keep f0 Q (AM.mk (RF 43 225 (tX tZ (tY (.bool false))) td) rest ⟨O,N,G⟩):=fun h td=>by
   have ew:(own k nm ns ts r&&ts.all okT&&(isNo r || okT r)&&okK k nm ns ts)=false:=by
    rcases h with h | h
    · rw [h,Bool.false_and,Bool.false_and,Bool.false_and]
    · rw [show okK k nm ns ts=false from by unfold okK; rw [if_pos h.1,h.2]; rfl,Bool.and_false]
   rw [ew] at hK
   exact hK O N _ Ext.refl
  refine ot (t_may (k:=k) (nm:=nm) (sn:=sn) (sa:=sa) (rp:=pv q)) ⟨i2'.ld 0 rfl,fun hc2=>?_,fun hc2=>?_⟩
  ·
   refine no_own ?_
   clear hK no_own hgo i2' i3' i4' i8' i9' ht
   rw [zm]
   simp only [bne_iff_ne,ne_eq,bne_eq_false_iff_eq,decide_eq_true_eq,decide_eq_false_iff_not] at *
   repeat' split
   all_goals ((try simp_all) <;> (try omega))
  ·
   refine ⟨i2'.ld 0 rfl,fun hc3=>?_,fun hc3=>?_⟩
   ·
    refine no_own ?_
    clear hK no_own hgo i2' i3' i4' i8' i9' ht
    rw [zm]
    simp only [bne_iff_ne,ne_eq,bne_eq_false_iff_eq,decide_eq_true_eq,decide_eq_false_iff_not] at *
    repeat' split
    all_goals ((try simp_all) <;> (try omega))
   ·
    refine ⟨i2'.ld 1 rfl,i2'.ld 0 rfl,fun hc4=>?_,fun hc4=>?_⟩
    ·
     refine no_own ?_
     clear hK no_own hgo i2' i3' i4' i8' i9' ht
     rw [zm]
     simp only [bne_iff_ne,ne_eq,bne_eq_false_iff_eq,decide_eq_true_eq,decide_eq_false_iff_not] at *
     repeat' split
     all_goals ((try simp_all) <;> (try omega))
    ·
     refine ⟨((ns.length:Nat):Int),i2'.ld 2 rfl,(i3'.len sSl _ _),fun hc5=>?_,fun hc5=>?_⟩
     ·
      refine ⟨i2'.ld 0 rfl,fun hc6=>?_,fun hc6=>?_⟩
      ·
       refine no_own ?_
       clear hK no_own hgo i2' i3' i4' i8' i9' ht
       rw [zm]
       simp only [bne_iff_ne,ne_eq,bne_eq_false_iff_eq,decide_eq_true_eq,decide_eq_false_iff_not] at *
       repeat' split
       all_goals ((try simp_all) <;> (try omega))
      ·
       refine ⟨((ts.length:Nat):Int),i2'.ld 3 rfl,(by rw [← i5']; exact i4'.len pSl _ _),fun hc7=>?_,fun hc7=>?_⟩
       ·
        refine ⟨i2'.ld 0 rfl,fun hc8=>?_,fun hc8=>?_⟩
        ·
         refine no_own ?_
         clear hK no_own hgo i2' i3' i4' i8' i9' ht
         rw [zm]
         simp only [bne_iff_ne,ne_eq,bne_eq_false_iff_eq,decide_eq_true_eq,decide_eq_false_iff_not] at *
         repeat' split
         all_goals ((try simp_all) <;> (try omega))
        ·
         refine ⟨(!isNo r),i2'.ld 4 rfl,(vV i9' _),i2'.ld 0 rfl,fun hc9=>?_,fun hc9=>?_⟩
         ·
          refine no_own ?_
          clear hK no_own hgo i2' i3' i4' i8' i9' ht
          rw [zm]
          simp only [bne_iff_ne,ne_eq,bne_eq_false_iff_eq,decide_eq_true_eq,decide_eq_false_iff_not] at *
          repeat' split
          all_goals ((try simp_all) <;> (try omega))
         ·
          refine hgo ?_
          clear hK no_own hgo i2' i3' i4' i8' i9' ht
          rw [zm]
          simp only [bne_iff_ne,ne_eq,bne_eq_false_iff_eq,decide_eq_true_eq,decide_eq_false_iff_not] at *
          repeat' split
          all_goals ((try simp_all) <;> (try omega))
       ·
        refine ⟨(!isNo r),i2'.ld 4 rfl,(vV i9' _),i2'.ld 0 rfl,fun hc10=>?_,fun hc10=>?_⟩
        ·
         refine no_own ?_
         clear hK no_own hgo i2' i3' i4' i8' i9' ht
         rw [zm]
         simp only [bne_iff_ne,ne_eq,bne_eq_false_iff_eq,decide_eq_true_eq,decide_eq_false_iff_not] at *
         repeat' split
         all_goals ((try simp_all) <;> (try omega))
        ·
         refine hgo ?_
         clear hK no_own hgo i2' i3' i4' i8' i9' ht
         rw [zm]
         simp only [bne_iff_ne,ne_eq,bne_eq_false_iff_eq,decide_eq_true_eq,decide_eq_false_iff_not] at *
         repeat' split
         all_goals ((try simp_all) <;> (try omega))
     ·
      refine ⟨((ts.length:Nat):Int),i2'.ld 3 rfl,(by rw [← i5']; exact i4'.len pSl _ _),fun hc11=>?_,fun hc11=>?_⟩
      ·
       refine ⟨i2'.ld 0 rfl,fun hc12=>?_,fun hc12=>?_⟩
       ·
        refine no_own ?_
        clear hK no_own hgo i2' i3' i4' i8' i9' ht
        rw [zm]
        simp only [bne_iff_ne,ne_eq,bne_eq_false_iff_eq,decide_eq_true_eq,decide_eq_false_iff_not] at *
        repeat' split
        all_goals ((try simp_all) <;> (try omega))
       ·
        refine ⟨(!isNo r),i2'.ld 4 rfl,(vV i9' _),i2'.ld 0 rfl,fun hc13=>?_,fun hc13=>?_⟩
        ·
         refine no_own ?_
         clear hK no_own hgo i2' i3' i4' i8' i9' ht
         rw [zm]
         simp only [bne_iff_ne,ne_eq,bne_eq_false_iff_eq,decide_eq_true_eq,decide_eq_false_iff_not] at *
         repeat' split
         all_goals ((try simp_all) <;> (try omega))
        ·
         refine hgo ?_
         clear hK no_own hgo i2' i3' i4' i8' i9' ht
         rw [zm]
         simp only [bne_iff_ne,ne_eq,bne_eq_false_iff_eq,decide_eq_true_eq,decide_eq_false_iff_not] at *
         repeat' split
         all_goals ((try simp_all) <;> (try omega))
      ·
       refine ⟨(!isNo r),i2'.ld 4 rfl,(vV i9' _),i2'.ld 0 rfl,fun hc14=>?_,fun hc14=>?_⟩
       ·
        refine no_own ?_
        clear hK no_own hgo i2' i3' i4' i8' i9' ht
        rw [zm]
        simp only [bne_iff_ne,ne_eq,bne_eq_false_iff_eq,decide_eq_true_eq,decide_eq_false_iff_not] at *
        repeat' split
        all_goals ((try simp_all) <;> (try omega))
       ·
        refine hgo ?_
        clear hK no_own hgo i2' i3' i4' i8' i9' ht
        rw [zm]
        simp only [bne_iff_ne,ne_eq,bne_eq_false_iff_eq,decide_eq_true_eq,decide_eq_false_iff_not] at *
        repeat' split
        all_goals ((try simp_all) <;> (try omega))
end Go.Proofs.Ytcdigdplhlgcaaa.gx
end
section
set_option maxRecDepth 100000
set_option linter.unusedVariables false
set_option linter.unusedSectionVars false
set_option linter.unusedSimpArgs false
namespace Go.Proofs.Ytcdigdplhlgcaaa.gx
open Go Ev tp
section
variable (p:Nat)
noncomputable def Fchp:AFrame:=⟨12,14,(tW (tX (tX (tY (.ptr p 0 0)) tZ) tZ) (.ptr p 0 0) tZ),   [.ops (rg P 12 [1,0,0,1,1,0]).toList ((rg P 12 [1,0,0,1,1,0]).toList.drop 1),.code (cd P 12 [1,0,0,1,1,1]),.inBlock 0,.code (cd P 12 [1,1])],[],.run,CallKind.normal,none⟩
noncomputable def zho:AFrame:=⟨12,14,(tX (tX (tX tZ (tY (.ptr p 0 0))) tZ) tZ),   [.ops (rg P 12 [1,0,0,1,1,1,1,0]).toList ((rg P 12 [1,0,0,1,1,1,1,0]).toList.drop 1),.code (cd P 12 [1,0,0,1,1,1,1,1]),.inBlock 0,.code (cd P (12:FuncId) [1,1])],[],.run,CallKind.normal,none⟩
noncomputable def Frcp:AFrame:=⟨13,11,(tW (tX tZ (tY (.ptr p 0 0))) (.ptr p 0 0) tZ),   [.ops (rg P 13 [1,1,0,0]).toList ((rg P 13 [1,1,0,0]).toList.drop 1),.code (cd P 13 [1,1,0,1]),.code (cd P 13 [1,1,1])],[],.run,CallKind.normal,none⟩
noncomputable def zhS:AFrame:=⟨13,11,(tX tZ (tX (tX (tY (.ptr p 0 0)) tZ) tZ)),   [.ops (rg P 13 [1,1,1,0,0]).toList ((rg P 13 [1,1,1,0,0]).toList.drop 1),.code (cd P 13 [1,1,1,0,1]),.code (cd P 13 [1,1,1,1])],[],.run,CallKind.normal,none⟩
end
section
variable {R:AV→AHeap→Prop} {keep N p:Nat} {f0:FuncId} {rest:List AFrame} {O:T AObj} {G:T (T AV)} {K:AM→Prop} {td:List AItem} {c:Int} {br1:Bool}
theorem t_chn:(K (AM.mk (RF 12 14 (tX tZ (tY (.int .i64 1))) [.code (cd P 12 [1,0,0,1,0,1]),.inBlock 0,.code (cd P 12 [1,1])]) rest ⟨O,N,G⟩))=OT f0 R keep K (.seq [.run 18,.keep [2]] .fin) ((AM.mk (enF 12 [.nilp]) rest ⟨O,N,G⟩)):=by kernel_rfl
theorem t_chp:(K (AM.mk (enF 14 [.ptr p 0 0]) ((Fchp p)::rest) ⟨O,N,G⟩))=OT f0 R keep K (.seq [.run 16,.keep [0,7],.run 1] .fin) ((AM.mk (enF 12 [.ptr p 0 0]) rest ⟨O,N,G⟩)):=by kernel_rfl
theorem zhe:(((decide (c > (60:Int)))=true→(K (AM.mk (RF 12 14 (tX tZ (tY (.int .i64 3))) [.code (cd P 14 [1,1,1,1]),.inBlock 0,.code (cd P (12:FuncId) [1,1])]) rest ⟨O,N,G⟩)))∧((decide (c > (60:Int)))=false→(K (AM.mk (enF 42 [.ptr p 0 0]) ((zho p)::rest) ⟨O,N,G⟩))))=OT f0 R keep K (.seq [.run 4] (.fork 6 (.seq [.run 6,.keep [2]] .fin) (.seq [.run 4,.keep [11],.run 1] .fin))) ((AM.mk (RF 14 12 (tX tZ (tY (.int .i64 c))) td) ((Fchp p)::rest) ⟨O,N,G⟩)):=by kernel_rfl
theorem jX:((((!br1))=true→(K (AM.mk (RF 12 14 (tX tZ (tY (.int .i64 2))) [.code (cd P 42 [1,1,0,1,0,1]),.inBlock 0,.code (cd P (12:FuncId) [1,1])]) rest ⟨O,N,G⟩)))∧(((!br1))=false→(K (AM.mk (RF 12 14 (tX tZ (tY (.int .i64 0))) [.code (cd P 42 [1,1,0,1,0,1])]) rest ⟨O,N,G⟩))))=OT f0 R keep K (.seq [.run 4] (.fork 10 (.seq [.run 6,.keep [2]] .fin) (.seq [.run 8,.keep [2]] .fin))) ((AM.mk (RF 42 95 (tX tZ (tY (.bool br1))) td) ((zho p)::rest) ⟨O,N,G⟩)):=by kernel_rfl
theorem t_rcn:(K (AM.mk (RF 13 11 (tX tZ (tY (.int .i64 1))) [.code (cd P 13 [1,0,1,0,1]),.code (cd P 13 [1,1])]) rest ⟨O,N,G⟩))=OT f0 R keep K (.seq [.run 16,.keep [2]] .fin) ((AM.mk (enF 13 [.nilp]) rest ⟨O,N,G⟩)):=by kernel_rfl
theorem t_rcp:(K (AM.mk (enF 15 [.ptr p 0 0]) ((Frcp p)::rest) ⟨O,N,G⟩))=OT f0 R keep K (.seq [.run 16,.keep [0,5],.run 1] .fin) ((AM.mk (enF 13 [.ptr p 0 0]) rest ⟨O,N,G⟩)):=by kernel_rfl
theorem zhI:(((decide (c > (60:Int)))=true→(K (AM.mk (RF 13 11 (tX tZ (tY (.int .i64 3))) [.code (cd P 15 [1,1]),.code (cd P (13:FuncId) [1,1,1])]) rest ⟨O,N,G⟩)))∧((decide (c > (60:Int)))=false→(K (AM.mk (enF 43 [.ptr p 0 0]) ((zhS p)::rest) ⟨O,N,G⟩))))=OT f0 R keep K (.seq [.run 3] (.fork 7 (.seq [.run 6,.keep [2]] .fin) (.seq [.run 6,.keep [8],.run 1] .fin))) ((AM.mk (RF 15 5 (tX tZ (tY (.int .i64 c))) td) ((Frcp p)::rest) ⟨O,N,G⟩)):=by kernel_rfl
theorem jY:((((!br1))=true→(K (AM.mk (RF 13 11 (tX tZ (tY (.int .i64 2))) [.code (cd P 43 [1,0,1,0,1]),.code (cd P (13:FuncId) [1,1,1,1])]) rest ⟨O,N,G⟩)))∧(((!br1))=false→(K (AM.mk (RF 13 11 (tX tZ (tY (.int .i64 0))) [.code (cd P 43 [1,0,1,0,1])]) rest ⟨O,N,G⟩))))=OT f0 R keep K (.seq [.run 3] (.fork 10 (.seq [.run 6,.keep [2]] .fin) (.seq [.run 7,.keep [2]] .fin))) ((AM.mk (RF 43 225 (tX tZ (tY (.bool br1))) td) ((zhS p)::rest) ⟨O,N,G⟩)):=by kernel_rfl
end
variable {O O':T AObj} {N:Nat} {G:T (T AV)}
theorem chk_ok {t:Ty}{p:Option Nat}{hi:Nat}(ht:Tr O hi t p)(hN:hi≤N){keep:Nat}{f0:FuncId}{Q:AV→AHeap→Prop}{rest:List AFrame}
 (hK:∀ O' N' td,Ext O N O' N'→Goal P keep f0 Q (AM.mk (RF 12 14 (tX tZ (tY (.int .i64 (chk t)))) td) rest ⟨O',N',G⟩)):Goal P keep f0 Q (AM.mk (enF 12 [pv p]) rest ⟨O,N,G⟩):=by
 rcases Bool.eq_false_or_eq_true (isNo t) with hno | hno
 · have hp:=(ht.isNo.1).2 hno
   subst hp
   rw [show chk t=1 from by unfold chk; rw [if_pos hno]] at hK
   exact (ot t_chn (hK O N _ Ext.refl))
 · obtain ⟨id,rfl⟩:∃ id,p=some id:=by
    cases p with
    | none=>have:=(ht.isNo.1).1 rfl; rw [hno] at this; cases this
    | some id=>exact ⟨id,rfl⟩
   refine (ot t_chp ?_)
   refine zpk ht hN fun O1 N1 td ex1=>?_
   by_cases hc:60<cnt t
   · rw [show chk t=3 from by unfold chk; rw [if_neg (by rw [hno]; simp),if_pos hc]] at hK
     exact (ot (zhe (c:=((min (cnt t) 61:Nat):Int))) (fkt (decide_eq_true (by omega)) (hK O1 N1 _ ex1)))
   · refine (ot (zhe (c:=((min (cnt t) 61:Nat):Int))) (fkf (decide_eq_false (by omega)) ?_))
     refine zbX (cnt t) t ⟨Nat.le_refl _,by omega⟩ hno keep f0 Q hi _ _ O1 N1 (ht.same (fun j hj=>ex1.2 j (by omega)) (Nat.le_refl _)) (Nat.le_trans hN ex1.1) fun O2 N2 td2 ex2=>?_
     rcases Bool.eq_false_or_eq_true (okT t) with hok | hok
     · rw [show chk t=0 from by unfold chk; rw [if_neg (by rw [hno]; simp),if_neg hc,if_pos hok]] at hK
       exact (ot (jX (br1:=(okT t))) (fkf (by rw [hok]; rfl) (hK O2 N2 _ (ex1.trans ex2))))
     · rw [show chk t=2 from by unfold chk; rw [if_neg (by rw [hno]; simp),if_neg hc,if_neg (by rw [hok]; simp)]] at hK
       exact (ot (jX (br1:=(okT t))) (fkt (by rw [hok]; rfl) (hK O2 N2 _ (ex1.trans ex2))))
theorem zdu {t:Ty}{p:Option Nat}{hi:Nat}(ht:Tr O hi t p)(hN:hi≤N){keep:Nat}{f0:FuncId}{Q:AV→AHeap→Prop}{rest:List AFrame}
 (hK:∀ O' N' td,Ext O N O' N'→Goal P keep f0 Q (AM.mk (RF 13 11 (tX tZ (tY (.int .i64 (chk t)))) td) rest ⟨O',N',G⟩)):Goal P keep f0 Q (AM.mk (enF 13 [pv p]) rest ⟨O,N,G⟩):=by
 rcases Bool.eq_false_or_eq_true (isNo t) with hno | hno
 · have hp:=(ht.isNo.1).2 hno
   subst hp
   rw [show chk t=1 from by unfold chk; rw [if_pos hno]] at hK
   exact (ot t_rcn (hK O N _ Ext.refl))
 · obtain ⟨id,rfl⟩:∃ id,p=some id:=by
    cases p with
    | none=>have:=(ht.isNo.1).1 rfl; rw [hno] at this; cases this
    | some id=>exact ⟨id,rfl⟩
   refine (ot t_rcp ?_)
   refine zg6 ht fun td=>?_
   have ex1:Ext O N O N:=Ext.refl
   by_cases hc:60<cnt t
   · rw [show chk t=3 from by unfold chk; rw [if_neg (by rw [hno]; simp),if_pos hc]] at hK
     exact (ot (zhI (c:=((min (cnt t) 61:Nat):Int))) (fkt (decide_eq_true (by omega)) (hK O N _ ex1)))
   · refine (ot (zhI (c:=((min (cnt t) 61:Nat):Int))) (fkf (decide_eq_false (by omega)) ?_))
     refine zku (cnt t) t ⟨Nat.le_refl _,by omega⟩ keep f0 Q hi _ _ O N ht hN fun O2 N2 td2 ex2=>?_
     rcases Bool.eq_false_or_eq_true (okT t) with hok | hok
     · rw [show chk t=0 from by unfold chk; rw [if_neg (by rw [hno]; simp),if_neg hc,if_pos hok]] at hK
       exact (ot (jY (br1:=(okT t))) (fkf (by rw [hok]; rfl) (hK O2 N2 _ (ex1.trans ex2))))
     · rw [show chk t=2 from by unfold chk; rw [if_neg (by rw [hno]; simp),if_neg hc,if_neg (by rw [hok]; simp)]] at hK
       exact (ot (jY (br1:=(okT t))) (fkt (by rw [hok]; rfl) (hK O2 N2 _ (ex1.trans ex2))))
end Go.Proofs.Ytcdigdplhlgcaaa.gx
end
section
set_option maxRecDepth 100000
set_option linter.unusedVariables false
set_option linter.unusedSectionVars false
set_option linter.unusedSimpArgs false
namespace Go.Proofs.Ytcdigdplhlgcaaa.gx
open Go Ev tp
section
variable (p q:Nat) (sa sa2:AV) (c:Int) (rp rp2:AV) (w:List UInt8) (j:Int) (l1:List UInt8) (i1 i2 i3 i4 i5 i6:Nat) (s1 s2:AV) (l1c:List UInt8) (z1 m3:Int) (rest:List AFrame) (O:T AObj) (N:Nat) (G:T (T AV))
noncomputable def Wla:AM:=⟨⟨76,250,(tW (tW (tX (tY (.int .i64 j)) tZ) (.ptr q 0 0) tZ) (.ptr p 0 0) (tX tZ (tY (.int .u64 m3)))),   [.code (cd P 76 [1,1,0,0,1,1,1,0,0,1,0,0]),.inLoop (cd P 76 [1,1,0,0,1,1,1,0,0,1,0,0]),.inBlock 1,.code (cd P 76 [1,1,0,0,1,1,1,0,1]),.inBlock 0,.code (cd P 76 [1,1,1])],[],.run,CallKind.normal,none⟩,rest,⟨O,N,G⟩⟩
noncomputable def Wlb:AM:=⟨⟨76,250,(tW (tY (.ptr q 0 0)) (.ptr p 0 0) (tX tZ (tW (tY (.int .i64 j)) (.int .u64 m3) tZ))),   [.code (cd P 76 [1,1,0,0,1,1,1,1,1,0,0,1,0,0]),.inLoop (cd P 76 [1,1,0,0,1,1,1,1,1,0,0,1,0,0]),.inBlock 3,.code (cd P 76 [1,1,0,0,1,1,1,1,1,0,1]),.inBlock 0,.code (cd P 76 [1,1,1])],[],.run,CallKind.normal,none⟩,rest,⟨O,N,G⟩⟩
noncomputable def Wlc:AM:=⟨⟨76,250,(tW (tW tZ (.ptr q 0 0) (tX tZ (tY (.int .i64 j)))) (.ptr p 0 0) (tX tZ (tY (.int .u64 m3)))),   [.code (cd P 76 [1,1,0,0,1,1,1,1,1,1,1,1,1,1,1,0,0,1,0,0]),.inLoop (cd P 76 [1,1,0,0,1,1,1,1,1,1,1,1,1,1,1,0,0,1,0,0]),.inBlock 5,.code (cd P 76 [1,1,0,0,1,1,1,1,1,1,1,1,1,1,1,0,1]),.inBlock 0,.code (cd P 76 [1,1,1])],[],.run,CallKind.normal,none⟩,rest,⟨O,N,G⟩⟩
noncomputable def Wld:AM:=⟨⟨76,250,(tW (tW tZ (.ptr q 0 0) (tX (tX (tY (.int .i64 j)) tZ) tZ)) (.ptr p 0 0) (tX tZ (tY (.int .u64 m3)))),   [.code (cd P 76 [1,1,0,0,1,1,1,1,1,1,1,1,1,1,1,1,1,0,1,0,1,0,0]),.inLoop (cd P 76 [1,1,0,0,1,1,1,1,1,1,1,1,1,1,1,1,1,0,1,0,1,0,0]),.inBlock 7,.code (cd P 76 [1,1,0,0,1,1,1,1,1,1,1,1,1,1,1,1,1,0,1,1]),.inBlock 0,.code (cd P 76 [1,1,1])],[],.run,CallKind.normal,none⟩,rest,⟨O,N,G⟩⟩
noncomputable def zrk:AFrame:=⟨76,250,(tW (tW (tX (tY (.int .i64 j)) (tX tZ (tX tZ (tY (.ptr q 0 0))))) (.ptr q 0 0) tZ) (.ptr p 0 0) (tX tZ (tW (tX tZ (tX tZ (tY s1))) (.int .u64 m3) tZ))),   [.ops (rg P 76 [1,1,0,0,1,1,1,0,0,1,0,0,1,0,0,0]).toList ((rg P 76 [1,1,0,0,1,1,1,0,0,1,0,0,1,0,0,0]).toList.drop 8),.code (cd P 76 [1,1,0,0,1,1,1,0,0,1,0,0,1,0,0,1]),.inBlock 2,.code (cd P 76 [1,1,0,0,1,1,1,0,0,1,0,0,1,1]),.inLoop (cd P (76:FuncId) [1,1,0,0,1,1,1,0,0,1,0,0]),.inBlock 1,.code (cd P (76:FuncId) [1,1,0,0,1,1,1,0,1]),.inBlock 0,.code (cd P (76:FuncId) [1,1,1])],[],.run,CallKind.normal,none⟩
noncomputable def zp4:AFrame:=⟨76,250,(tW (tW tZ (.ptr q 0 0) (tX tZ (tX tZ (tX tZ (tX (tY s1) tZ))))) (.ptr p 0 0) (tX tZ (tW (tY (.int .i64 j)) (.int .u64 m3) (tX (tX tZ (tX (tY (.ptr p 0 0)) tZ)) tZ)))),   [.ops (rg P 76 [1,1,0,0,1,1,1,1,1,0,0,1,0,0,1,0,0,0]).toList ((rg P 76 [1,1,0,0,1,1,1,1,1,0,0,1,0,0,1,0,0,0]).toList.drop 8),.code (cd P 76 [1,1,0,0,1,1,1,1,1,0,0,1,0,0,1,0,0,1]),.inBlock 4,.code (cd P 76 [1,1,0,0,1,1,1,1,1,0,0,1,0,0,1,1]),.inLoop (cd P (76:FuncId) [1,1,0,0,1,1,1,1,1,0,0,1,0,0]),.inBlock 3,.code (cd P (76:FuncId) [1,1,0,0,1,1,1,1,1,0,1]),.inBlock 0,.code (cd P (76:FuncId) [1,1,1])],[],.run,CallKind.normal,none⟩
noncomputable def zqe:AFrame:=⟨76,250,(tW (tW tZ (.ptr q 0 0) (tX (tX (tX tZ (tX (tX (tY (.ptr p 0 0)) tZ) tZ)) tZ) (tY (.int .i64 j)))) (.ptr p 0 0) (tX (tX (tX tZ (tX tZ (tX (tX (tY (.str l1)) tZ) tZ))) tZ) (tY (.int .u64 m3)))),   [.ops (rg P 76 [1,1,0,0,1,1,1,1,1,1,1,1,1,1,1,0,0,1,0,0,1,0,0,0]).toList ((rg P 76 [1,1,0,0,1,1,1,1,1,1,1,1,1,1,1,0,0,1,0,0,1,0,0,0]).toList.drop 8),.code (cd P 76 [1,1,0,0,1,1,1,1,1,1,1,1,1,1,1,0,0,1,0,0,1,0,0,1]),.inBlock 6,.code (cd P 76 [1,1,0,0,1,1,1,1,1,1,1,1,1,1,1,0,0,1,0,0,1,1]),.inLoop (cd P (76:FuncId) [1,1,0,0,1,1,1,1,1,1,1,1,1,1,1,0,0,1,0,0]),.inBlock 5,.code (cd P (76:FuncId) [1,1,0,0,1,1,1,1,1,1,1,1,1,1,1,0,1]),.inBlock 0,.code (cd P (76:FuncId) [1,1,1])],[],.run,CallKind.normal,none⟩
noncomputable def zew:AFrame:=⟨76,250,(tW (tW (tX (tX (tX (tX tZ (tX (tY (.ptr p 0 0)) tZ)) tZ) (tX (tX tZ (tX (tY (.ptr q 0 3)) tZ)) tZ)) (tX (tX (tX tZ (tX (tY (.ptr i1 i2 i3)) tZ)) tZ) (tX (tX tZ (tX (tY s2) tZ)) (tX (tX (tY (.bool false)) tZ) tZ)))) (.ptr q 0 0) (tX (tX (tX (tX tZ (tX (tY sa) tZ)) (tX (tX (tY (.ptr p 0 0)) tZ) tZ)) (tX (tX tZ (tX (tY (.int .i64 j)) tZ)) (tX (tX (tY (.int .i64 c)) tZ) tZ))) (tW (tX (tX tZ (tX (tY (.ptr q 0 0)) tZ)) tZ) (.int .i64 j) tZ))) (.ptr p 0 0) (tX (tX (tX (tX (tX tZ (tX (tY (.ptr p 0 3)) tZ)) tZ) (tX (tX tZ (tX (tY sa2) tZ)) (tX (tX (tY (.str l1c)) tZ) tZ))) (tX (tX (tX tZ (tX (tY s1) tZ)) tZ) tZ)) (tW (tX (tX (tX tZ (tX (tY (.int .i64 c)) tZ)) tZ) (tX (tX tZ (tX (tY (.ptr i4 i5 i6)) tZ)) (tX (tX (tY (.int .i64 c)) tZ) tZ))) (.int .u64 m3) (tW (tX (tX tZ (tX (tY (.ptr q 0 0)) tZ)) tZ) (.int .i64 c) (tX tZ (tX (tX (tY (.ptr p 0 0)) tZ) tZ)))))),   [.drw (rg P 76 [1,1,0,0,1,1,1,1,1,1,1,1,1,1,1,0,0,1,0,0,1,0,0,1,1,0]) [14,15,16,17,18,19] [13,12,11,10,9,8,7,6,5,4,3,2,1,0],.code (cd P 76 [1,1,0,0,1,1,1,1,1,1,1,1,1,1,1,0,0,1,0,0,1,0,0,1,1,1]),.inBlock 6,.code (cd P (76:FuncId) [1,1,0,0,1,1,1,1,1,1,1,1,1,1,1,0,0,1,0,0,1,1]),.inLoop (cd P (76:FuncId) [1,1,0,0,1,1,1,1,1,1,1,1,1,1,1,0,0,1,0,0]),.inBlock 5,.code (cd P (76:FuncId) [1,1,0,0,1,1,1,1,1,1,1,1,1,1,1,0,1]),.inBlock 0,.code (cd P (76:FuncId) [1,1,1])],[],.run,CallKind.normal,none⟩
noncomputable def zqn:AFrame:=⟨76,250,(tW (tW (tX (tX (tX (tX tZ (tX tZ (tY s2))) tZ) (tX tZ (tX (tX tZ (tY (.ptr i1 i2 i3))) tZ))) (tX (tX tZ (tX (tX tZ (tY (.ptr q 0 0))) tZ)) (tX (tX (tX tZ (tY (.ptr p 0 3))) tZ) (tX (tX tZ (tY (.ptr p 0 3))) tZ)))) (.ptr q 0 0) (tX (tX (tY (.int .i64 j)) (tX (tX (tX tZ (tY (.ptr p 0 0))) tZ) (tX (tX tZ (tY (.ptr p 0 0))) tZ))) (tX (tX tZ (tX (tX tZ (tY sa2)) tZ)) (tX (tX (tX tZ (tY (.int .i64 z1))) tZ) (tX (tX tZ (tY (.int .i64 j))) tZ))))) (.ptr p 0 0) (tX (tX (tX tZ (tX (tX (tX tZ (tY (.int .i64 j))) tZ) (tX (tX tZ (tY s1)) tZ))) (tX (tX tZ (tX (tX tZ (tY (.ptr q 0 3))) tZ)) (tX (tX (tX tZ (tY sa)) tZ) (tX (tX tZ (tY sa)) tZ)))) (tW (tX (tX tZ (tX (tX tZ (tY (.ptr q 0 0))) tZ)) (tX (tX (tX tZ (tY (.ptr p 0 0))) tZ) (tX (tX tZ (tY (.ptr p 0 0))) tZ))) (.int .u64 m3) (tX (tX tZ (tX (tX tZ (tY (.int .i64 j))) tZ)) (tX (tX (tX tZ (tY (.bool true))) tZ) (tX (tX tZ (tY (.ptr i4 i5 i6))) tZ)))))),   [.drw (rg P 76 [1,1,0,0,1,1,1,1,1,1,1,1,1,1,1,1,1,0,1,0,1,0,0,1,0,0,0]) [14,15,16,17,18,19] [13,12,11,10,9,8,7,6,5,4,3,2,1,0],.code (cd P 76 [1,1,0,0,1,1,1,1,1,1,1,1,1,1,1,1,1,0,1,0,1,0,0,1,0,0,1]),.inBlock 8,.code (cd P 76 [1,1,0,0,1,1,1,1,1,1,1,1,1,1,1,1,1,0,1,0,1,0,0,1,1]),.inLoop (cd P (76:FuncId) [1,1,0,0,1,1,1,1,1,1,1,1,1,1,1,1,1,0,1,0,1,0,0]),.inBlock 7,.code (cd P (76:FuncId) [1,1,0,0,1,1,1,1,1,1,1,1,1,1,1,1,1,0,1,1]),.inBlock 0,.code (cd P (76:FuncId) [1,1,1])],[],.run,CallKind.normal,none⟩
noncomputable def zqH:AFrame:=⟨76,250,(tW (tW (tX (tX (tX tZ (tX tZ (tX tZ (tY (.ptr q 0 0))))) tZ) (tX tZ (tX (tX (tX tZ (tY (.ptr p 0 3))) (tX tZ (tY (.ptr p 0 0)))) tZ))) (.ptr q 0 0) (tX (tX (tW tZ (.int .i64 j) (tX tZ (tX tZ (tY rp2)))) (tX (tX (tX tZ (tY (.ptr p 0 0))) tZ) tZ)) (tX tZ (tX (tX (tX tZ (tY (.int .i64 z1))) (tX tZ (tY rp))) tZ)))) (.ptr p 0 0) (tX (tX (tX (tX tZ (tX tZ (tX tZ (tY (.ptr q 0 4))))) (tX (tX (tX tZ (tY (.int .i64 j))) tZ) tZ)) (tX tZ (tX (tX (tX tZ (tY sa)) (tX tZ (tY (.ptr p 0 4)))) tZ))) (tW (tX tZ (tX (tX (tX tZ (tY (.ptr p 0 0))) (tX tZ (tY (.ptr p 0 0)))) tZ)) (.int .u64 m3) (tX tZ (tX (tX (tX tZ (tY (.bool false))) (tX tZ (tY (.ptr q 0 0)))) tZ))))),   [.drw (rg P 76 [1,1,0,0,1,1,1,1,1,1,1,1,1,1,1,1,1,0,1,1,0]) [8,9,10,11,12,13] [7,6,5,4,3,2,1,0],.code (cd P 76 [1,1,0,0,1,1,1,1,1,1,1,1,1,1,1,1,1,0,1,1,1]),.inBlock 0,.code (cd P (76:FuncId) [1,1,1])],[],.run,CallKind.normal,none⟩
noncomputable def Wrfi:AM:=⟨⟨112,25,(tW (tW tZ (.str w) (tY (.int .i64 j))) (.ptr p 0 0) tZ),   [.code (cd P 112 [1,0,1,0,0]),.inLoop (cd P 112 [1,0,1,0,0]),.inBlock 0,.code (cd P 112 [1,1])],[],.run,CallKind.normal,none⟩,rest,⟨O,N,G⟩⟩
end
section
variable {R:AV→AHeap→Prop} {keep N p q i1c i2c i3c i4c i5c i6c:Nat} {f0:FuncId} {rest:List AFrame} {O:T AObj} {w nm nm2 l1c:List UInt8} {G:T (T AV)} {K:AM→Prop} {k k2 j m3 m2 c z1c:Int} {sa sa2 s1c sn2 s2c rp rp2 sn:AV} {td:List AItem} {bl:Bool}
theorem t_rfi:(K (Wrfi p w 0 rest O N G))=OT f0 R keep K (.seq [.run 11,.keep [0,1,5]] .fin) ((AM.mk (enF 112 [.ptr p 0 0,.str w]) rest ⟨O,N,G⟩)):=by kernel_rfl
theorem zb1:((lC O N G p 0 (.int .i64 k))∧(((k==(1:Int)))=true→(K (AM.mk (RF 76 250 (tX (tX tZ (tY (.int .u64 1))) (tX (tY (.bool true)) tZ)) [.code (cd P 76 [1,1,0,0,1,0,1]),.inBlock 0,.code (cd P 76 [1,1,1])]) rest ⟨O,N,G⟩)))∧(((k==(1:Int)))=false→((lC O N G q 0 (.int .i64 k2))∧(((k2==(1:Int)))=true→(K (AM.mk (RF 76 250 (tX (tX tZ (tY (.int .u64 1))) (tX (tY (.bool true)) tZ)) [.code (cd P 76 [1,1,0,0,1,0,1]),.inBlock 0,.code (cd P 76 [1,1,1])]) rest ⟨O,N,G⟩)))∧(((k2==(1:Int)))=false→((lC O N G p 0 (.int .i64 k))∧(((k==(9:Int)))=true→(K (Wla p q 0 1 rest O N G)))∧(((k==(9:Int)))=false→((lC O N G q 0 (.int .i64 k2))∧(((k2==(9:Int)))=true→(K (Wlb p q 0 1 rest O N G)))∧(((k2==(9:Int)))=false→((lC O N G p 0 (.int .i64 k))∧(lC O N G q 0 (.int .i64 k2))∧(((k != k2))=true→(K (AM.mk (RF 76 250 (tX (tX tZ (tY (.int .u64 1))) (tX (tY (.bool false)) tZ)) [.code (cd P 76 [1,1,0,0,1,0,1]),.inBlock 0,.code (cd P 76 [1,1,1])]) rest ⟨O,N,G⟩)))∧(((k != k2))=false→((lC O N G p 0 (.int .i64 k))∧(((k==(6:Int)))=true→((lC O N G p 1 (.str nm))∧(lC O N G q 1 (.str nm2))∧K (AM.mk (RF 76 250 (tX (tX tZ (tY (.int .u64 1))) (tX (tY (.bool (nm==nm2))) tZ)) [.code (cd P 76 [1,1,0,0,1,0,1]),.inBlock 0,.code (cd P 76 [1,1,1])]) rest ⟨O,N,G⟩)))∧(((k==(6:Int)))=false→((lC O N G p 0 (.int .i64 k))∧(((k==(7:Int)))=true→(K (Wlc p q 0 1 rest O N G)))∧(((k==(7:Int)))=false→((lC O N G p 0 (.int .i64 k))∧(((k==(8:Int)))=true→(∃ (z1:Int) (z2:Int),(lC O N G p 3 sa)∧(lN O N G 33 sa z1)∧(lC O N G q 3 sa2)∧(lN O N G 33 sa2 z2)∧(((z1 != z2))=true→(K (AM.mk (RF 76 250 (tX (tX tZ (tY (.int .u64 1))) (tX (tY (.bool false)) tZ)) [.code (cd P 76 [1,1,0,0,1,0,1]),.code (cd P 76 [1,1,0,0,1,1,1,1,1,1,1,1,1,1,1,1,1,0,1]),.inBlock 0,.code (cd P 76 [1,1,1])]) rest ⟨O,N,G⟩)))∧(((z1 != z2))=false→(K (Wld p q 0 1 rest O N G)))))∧(((k==(8:Int)))=false→(K (AM.mk (RF 76 250 (tX (tX tZ (tY (.int .u64 1))) (tX (tY (.bool true)) tZ)) [.code (cd P 76 [1,1,0,0,1,0,1])]) rest ⟨O,N,G⟩))))))))))))))))))=OT f0 R keep K (.seq [.run 16,.hop (.int .i64 k) O,.run 2] (.fork 28 (.seq [.run 16,.keep [4,5]] .fin) (.seq [.run 3,.hop (.int .i64 k2) O,.run 4] (.fork 22 (.seq [.run 8,.keep [4,5]] .fin) (.seq [.run 6,.hop (.int .i64 k) O,.run 3] (.fork 36 (.seq [.run 8,.keep [0,1,6,7]] .fin) (.seq [.run 6,.hop (.int .i64 k2) O,.run 3] (.fork 70 (.seq [.run 8,.keep [0,1,6,10]] .fin) (.seq [.run 6,.hop (.int .i64 k) O,.run 3,.hop (.int .i64 k2) O,.run 3] (.fork 103 (.seq [.run 8,.keep [4,5]] .fin) (.seq [.run 6,.hop (.int .i64 k) O,.run 3] (.fork 114 (.seq [.run 6,.hop (.str nm) O,.run 3,.hop (.str nm2) O,.run 6,.keep [4,5]] .fin) (.seq [.run 6,.hop (.int .i64 k) O,.run 3] (.fork 130 (.seq [.run 8,.keep [0,1,6,13]] .fin) (.seq [.run 6,.hop (.int .i64 k) O,.run 3] (.fork 182 (.ex fun z1:Int=>(.ex fun z2:Int=>(.seq [.run 7,.hop (sa) O,.hopn (.int .i64 z1) O (N),.run 3,.hop (sa2) O,.hopn (.int .i64 z2) O (N),.run 2] (.fork 198 (.seq [.run 8,.keep [4,5]] .fin) (.seq [.run 9,.keep [0,1,6,17]] .fin))))) (.seq [.run 10,.keep [4,5]] .fin))))))))))))))))) ((AM.mk (enF 76 [.ptr p 0 0,.ptr q 0 0]) rest ⟨O,N,G⟩)):=by kernel_rfl
theorem zqV:(∃ (z1:Int),(lC O N G p 3 sa)∧(lN O N G 33 sa z1)∧((decide (j<z1))=true→(∃ (i1:Nat) (i2:Nat) (i3:Nat) (s1:AV),(lC O N G p 3 sa)∧(iX 33 sa j i1 i2 i3)∧(lR O N G i1 i2 i3 s1)∧K (AM.mk (enF 76 [s1,.ptr q 0 0]) ((zrk p q j s1 m3)::rest) ⟨O,N,G⟩)))∧((decide (j<z1))=false→(K (AM.mk (RF 76 250 (tX (tX tZ (tY (.int .u64 m3))) (tX (tY (.bool true)) tZ)) [.code (cd P 76 [1,1,0,0,1,0,1]),.inBlock 0,.code (cd P (76:FuncId) [1,1,1])]) rest ⟨O,N,G⟩))))=OT f0 R keep K (.ex fun z1:Int=>(.seq [.run 7,.hop (sa) O,.hopn (.int .i64 z1) O (N),.run 2] (.fork 48 (.ex fun i1:Nat=>(.ex fun i2:Nat=>(.ex fun i3:Nat=>(.ex fun s1:AV=>(.seq [.run 9,.hop (sa) O,.run 1,.hopn (.ptr i1 i2 i3) O (N),.hop (s1) O,.run 1,.keep [0,1,6,7,58,59],.run 1] .fin))))) (.seq [.run 9,.keep [4,5]] .fin)))) ((Wla p q j m3 rest O N G)):=by kernel_rfl
theorem zfN:((((!bl))=true→(K (AM.mk (RF 76 250 (tX (tX tZ (tY (.int .u64 (IntKind.u64.wrap (m3+m2))))) (tX (tY (.bool false)) tZ)) [.code (cd P 76 [1,1,0,0,1,0,1]),.inBlock 2,.code (cd P (76:FuncId) [1,1,0,0,1,1,1,0,0,1,0,0,1,1]),.inLoop (cd P (76:FuncId) [1,1,0,0,1,1,1,0,0,1,0,0]),.inBlock 1,.code (cd P (76:FuncId) [1,1,0,0,1,1,1,0,1]),.inBlock 0,.code (cd P (76:FuncId) [1,1,1])]) rest ⟨O,N,G⟩)))∧(((!bl))=false→(K (Wla p q (IntKind.i64.wrap (j+(1:Int))) (IntKind.u64.wrap (m3+m2)) rest O N G))))=OT f0 R keep K (.seq [.run 19] (.fork 67 (.seq [.run 8,.keep [4,5]] .fin) (.seq [.run 9,.keep [0,1,6,7]] .fin))) ((AM.mk (RF 76 250 (tX (tX tZ (tY (.int .u64 m2))) (tX (tY (.bool bl)) tZ)) td) ((zrk p q j s1c m3)::rest) ⟨O,N,G⟩)):=by kernel_rfl
theorem zqk:(∃ (z1:Int),(lC O N G q 3 sa2)∧(lN O N G 33 sa2 z1)∧((decide (j<z1))=true→(∃ (i1:Nat) (i2:Nat) (i3:Nat) (s1:AV),(lC O N G q 3 sa2)∧(iX 33 sa2 j i1 i2 i3)∧(lR O N G i1 i2 i3 s1)∧K (AM.mk (enF 76 [.ptr p 0 0,s1]) ((zp4 p q j s1 m3)::rest) ⟨O,N,G⟩)))∧((decide (j<z1))=false→(K (AM.mk (RF 76 250 (tX (tX tZ (tY (.int .u64 m3))) (tX (tY (.bool false)) tZ)) [.code (cd P 76 [1,1,0,0,1,0,1]),.inBlock 0,.code (cd P (76:FuncId) [1,1,1])]) rest ⟨O,N,G⟩))))=OT f0 R keep K (.ex fun z1:Int=>(.seq [.run 7,.hop (sa2) O,.hopn (.int .i64 z1) O (N),.run 2] (.fork 82 (.ex fun i1:Nat=>(.ex fun i2:Nat=>(.ex fun i3:Nat=>(.ex fun s1:AV=>(.seq [.run 10,.hop (sa2) O,.run 1,.hopn (.ptr i1 i2 i3) O (N),.hop (s1) O,.keep [0,1,6,10,86,93],.run 1] .fin))))) (.seq [.run 9,.keep [4,5]] .fin)))) ((Wlb p q j m3 rest O N G)):=by kernel_rfl
theorem zez:(((bl)=true→(K (AM.mk (RF 76 250 (tX (tX tZ (tY (.int .u64 (IntKind.u64.wrap (m3+m2))))) (tX (tY (.bool true)) tZ)) [.code (cd P 76 [1,1,0,0,1,0,1]),.inBlock 4,.code (cd P (76:FuncId) [1,1,0,0,1,1,1,1,1,0,0,1,0,0,1,1]),.inLoop (cd P (76:FuncId) [1,1,0,0,1,1,1,1,1,0,0,1,0,0]),.inBlock 3,.code (cd P (76:FuncId) [1,1,0,0,1,1,1,1,1,0,1]),.inBlock 0,.code (cd P (76:FuncId) [1,1,1])]) rest ⟨O,N,G⟩)))∧((bl)=false→(K (Wlb p q (IntKind.i64.wrap (j+(1:Int))) (IntKind.u64.wrap (m3+m2)) rest O N G))))=OT f0 R keep K (.seq [.run 18] (.fork 100 (.seq [.run 8,.keep [4,5]] .fin) (.seq [.run 9,.keep [0,1,6,10]] .fin))) ((AM.mk (RF 76 250 (tX (tX tZ (tY (.int .u64 m2))) (tX (tY (.bool bl)) tZ)) td) ((zp4 p q j s1c m3)::rest) ⟨O,N,G⟩)):=by kernel_rfl
theorem zqy:(∃ (z1:Int),(lC O N G q 2 sn2)∧(lN O N G 32 sn2 z1)∧((decide (j<z1))=true→(∃ (i1:Nat) (i2:Nat) (i3:Nat) (l1:List UInt8),(lC O N G q 2 sn2)∧(iX 32 sn2 j i1 i2 i3)∧(lR O N G i1 i2 i3 (.str l1))∧K (AM.mk (enF 112 [.ptr p 0 0,.str l1]) ((zqe p q j l1 m3)::rest) ⟨O,N,G⟩)))∧((decide (j<z1))=false→(K (AM.mk (RF 76 250 (tX (tX tZ (tY (.int .u64 m3))) (tX (tY (.bool true)) tZ)) [.code (cd P 76 [1,1,0,0,1,0,1]),.inBlock 0,.code (cd P (76:FuncId) [1,1,1])]) rest ⟨O,N,G⟩))))=OT f0 R keep K (.ex fun z1:Int=>(.seq [.run 7,.hop (sn2) O,.hopn (.int .i64 z1) O (N),.run 2] (.fork 142 (.ex fun i1:Nat=>(.ex fun i2:Nat=>(.ex fun i3:Nat=>(.ex fun l1:List UInt8=>(.seq [.run 10,.hop (sn2) O,.run 1,.hopn (.ptr i1 i2 i3) O (N),.hop (.str l1) O,.keep [0,1,6,13,145,152],.run 1] .fin))))) (.seq [.run 9,.keep [4,5]] .fin)))) ((Wlc p q j m3 rest O N G)):=by kernel_rfl
theorem zfM:(((decide (c<(0:Int)))=true→(K (AM.mk (RF 76 250 (tX (tX tZ (tY (.int .u64 m3))) (tX (tY (.bool false)) tZ)) [.code (cd P 112 [1,0,1,0,0,1,0,0,1,0,1]),.code (cd P 76 [1,1,0,0,1,1,1,1,1,1,1,1,1,1,1,0,0,1,0,0,1,0,0,1,1]),.inBlock 6,.code (cd P (76:FuncId) [1,1,0,0,1,1,1,1,1,1,1,1,1,1,1,0,0,1,0,0,1,1]),.inLoop (cd P (76:FuncId) [1,1,0,0,1,1,1,1,1,1,1,1,1,1,1,0,0,1,0,0]),.inBlock 5,.code (cd P (76:FuncId) [1,1,0,0,1,1,1,1,1,1,1,1,1,1,1,0,1]),.inBlock 0,.code (cd P (76:FuncId) [1,1,1])]) rest ⟨O,N,G⟩)))∧((decide (c<(0:Int)))=false→(∃ (i1:Nat) (i2:Nat) (i3:Nat) (s1:AV) (i4:Nat) (i5:Nat) (i6:Nat) (s2:AV),(lC O N G p 3 sa)∧(iX 33 sa c i1 i2 i3)∧(lR O N G i1 i2 i3 s1)∧(lC O N G q 3 sa2)∧(iX 33 sa2 j i4 i5 i6)∧(lR O N G i4 i5 i6 s2)∧K (AM.mk (enF 76 [s1,s2]) ((zew p q sa sa2 c j i1 i2 i3 i4 i5 i6 s1 s2 l1c m3)::rest) ⟨O,N,G⟩))))=OT f0 R keep K (.seq [.run 9] (.fork 155 (.seq [.run 8,.keep [4,5]] .fin) (.ex fun i1:Nat=>(.ex fun i2:Nat=>(.ex fun i3:Nat=>(.ex fun s1:AV=>(.ex fun i4:Nat=>(.ex fun i5:Nat=>(.ex fun i6:Nat=>(.ex fun s2:AV=>(.seq [.run 7,.hop (sa) O,.run 1,.hopn (.ptr i1 i2 i3) O (N),.hop (s1) O,.run 3,.hop (sa2) O,.run 1,.hopn (.ptr i4 i5 i6) O (N),.hop (s2) O,.run 1] .fin))))))))))) ((AM.mk (RF 112 25 (tX tZ (tX (tY (.int .i64 c)) tZ)) td) ((zqe p q j l1c m3)::rest) ⟨O,N,G⟩)):=by kernel_rfl
theorem kU:((((!bl))=true→(K (AM.mk (RF 76 250 (tX (tX tZ (tY (.int .u64 (IntKind.u64.wrap (m3+m2))))) (tX (tY (.bool false)) tZ)) [.code (cd P 76 [1,1,0,0,1,0,1]),.inBlock 6,.code (cd P (76:FuncId) [1,1,0,0,1,1,1,1,1,1,1,1,1,1,1,0,0,1,0,0,1,1]),.inLoop (cd P (76:FuncId) [1,1,0,0,1,1,1,1,1,1,1,1,1,1,1,0,0,1,0,0]),.inBlock 5,.code (cd P (76:FuncId) [1,1,0,0,1,1,1,1,1,1,1,1,1,1,1,0,1]),.inBlock 0,.code (cd P (76:FuncId) [1,1,1])]) rest ⟨O,N,G⟩)))∧(((!bl))=false→(K (Wlc p q (IntKind.i64.wrap (j+(1:Int))) (IntKind.u64.wrap (m3+m2)) rest O N G))))=OT f0 R keep K (.seq [.run 19] (.fork 179 (.seq [.run 8,.keep [4,5]] .fin) (.seq [.run 9,.keep [0,1,6,13]] .fin))) ((AM.mk (RF 76 250 (tX (tX tZ (tY (.int .u64 m2))) (tX (tY (.bool bl)) tZ)) td) ((zew p q sa sa2 c j i1c i2c i3c i4c i5c i6c s1c s2c l1c m3)::rest) ⟨O,N,G⟩)):=by kernel_rfl
theorem zqv:(∃ (z1:Int),(lC O N G p 3 sa)∧(lN O N G 33 sa z1)∧((decide (j<z1))=true→(∃ (i1:Nat) (i2:Nat) (i3:Nat) (s1:AV) (i4:Nat) (i5:Nat) (i6:Nat) (s2:AV),(lC O N G q 3 sa2)∧(iX 33 sa2 j i1 i2 i3)∧(lR O N G i1 i2 i3 s1)∧(lC O N G p 3 sa)∧(iX 33 sa j i4 i5 i6)∧(lR O N G i4 i5 i6 s2)∧K (AM.mk (enF 76 [s1,s2]) ((zqn p q sa sa2 j i1 i2 i3 i4 i5 i6 s1 s2 z1 m3)::rest) ⟨O,N,G⟩)))∧((decide (j<z1))=false→((lC O N G p 4 rp)∧(lC O N G q 4 rp2)∧K (AM.mk (enF 76 [rp,rp2]) ((zqH p q sa rp rp2 j z1 m3)::rest) ⟨O,N,G⟩))))=OT f0 R keep K (.ex fun z1:Int=>(.seq [.run 7,.hop (sa) O,.hopn (.int .i64 z1) O (N),.run 2] (.fork 206 (.ex fun i1:Nat=>(.ex fun i2:Nat=>(.ex fun i3:Nat=>(.ex fun s1:AV=>(.ex fun i4:Nat=>(.ex fun i5:Nat=>(.ex fun i6:Nat=>(.ex fun s2:AV=>(.seq [.run 9,.hop (sa2) O,.run 1,.hopn (.ptr i1 i2 i3) O (N),.hop (s1) O,.run 3,.hop (sa) O,.run 1,.hopn (.ptr i4 i5 i6) O (N),.hop (s2) O,.run 1] .fin))))))))) (.seq [.run 7,.hop (rp) O,.run 3,.hop (rp2) O,.run 1] .fin)))) ((Wld p q j m3 rest O N G)):=by kernel_rfl
theorem zfp:((((!bl))=true→(K (AM.mk (RF 76 250 (tX (tX tZ (tY (.int .u64 (IntKind.u64.wrap (m3+m2))))) (tX (tY (.bool false)) tZ)) [.code (cd P 76 [1,1,0,0,1,0,1]),.inBlock 8,.code (cd P (76:FuncId) [1,1,0,0,1,1,1,1,1,1,1,1,1,1,1,1,1,0,1,0,1,0,0,1,1]),.inLoop (cd P (76:FuncId) [1,1,0,0,1,1,1,1,1,1,1,1,1,1,1,1,1,0,1,0,1,0,0]),.inBlock 7,.code (cd P (76:FuncId) [1,1,0,0,1,1,1,1,1,1,1,1,1,1,1,1,1,0,1,1]),.inBlock 0,.code (cd P (76:FuncId) [1,1,1])]) rest ⟨O,N,G⟩)))∧(((!bl))=false→(K (Wld p q (IntKind.i64.wrap (j+(1:Int))) (IntKind.u64.wrap (m3+m2)) rest O N G))))=OT f0 R keep K (.seq [.run 19] (.fork 231 (.seq [.run 8,.keep [4,5]] .fin) (.seq [.run 9,.keep [0,1,6,17]] .fin))) ((AM.mk (RF 76 250 (tX (tX tZ (tY (.int .u64 m2))) (tX (tY (.bool bl)) tZ)) td) ((zqn p q sa sa2 j i1c i2c i3c i4c i5c i6c s1c s2c z1c m3)::rest) ⟨O,N,G⟩)):=by kernel_rfl
theorem zk0:(K (AM.mk (RF 76 250 (tX (tX tZ (tY (.int .u64 (IntKind.u64.wrap (m3+m2))))) (tX (tY (.bool bl)) tZ)) [.code (cd P 76 [1,1,0,0,1,0,1]),.inBlock 0,.code (cd P (76:FuncId) [1,1,1])]) rest ⟨O,N,G⟩))=OT f0 R keep K (.seq [.run 17,.keep [4,5]] .fin) ((AM.mk (RF 76 250 (tX (tX tZ (tY (.int .u64 m2))) (tX (tY (.bool bl)) tZ)) td) ((zqH p q sa rp rp2 j z1c m3)::rest) ⟨O,N,G⟩)):=by kernel_rfl
theorem zpn:(∃ (z1:Int),(lC O N G p 2 sn)∧(lN O N G 32 sn z1)∧((decide (j<z1))=true→(∃ (i1:Nat) (i2:Nat) (i3:Nat) (l1:List UInt8),(lC O N G p 2 sn)∧(iX 32 sn j i1 i2 i3)∧(lR O N G i1 i2 i3 (.str l1))∧(((l1==w))=true→(K (AM.mk (RF 112 25 (tX tZ (tX (tY (.int .i64 j)) tZ)) [.code (cd P 112 [1,0,1,0,0,1,0,0,1,0,1]),.inBlock 1,.code (cd P 112 [1,0,1,0,0,1,1]),.inLoop (cd P (112:FuncId) [1,0,1,0,0]),.inBlock 0,.code (cd P (112:FuncId) [1,1])]) rest ⟨O,N,G⟩)))∧(((l1==w))=false→(K (Wrfi p w (IntKind.i64.wrap (j+(1:Int))) rest O N G)))))∧((decide (j<z1))=false→(K (AM.mk (RF 112 25 (tX tZ (tX (tY (.int .i64 (-1))) tZ)) [.code (cd P 112 [1,0,1,0,0,1,0,0,1,0,1])]) rest ⟨O,N,G⟩))))=OT f0 R keep K (.ex fun z1:Int=>(.seq [.run 7,.hop (sn) O,.hopn (.int .i64 z1) O (N),.run 2] (.fork 12 (.ex fun i1:Nat=>(.ex fun i2:Nat=>(.ex fun i3:Nat=>(.ex fun l1:List UInt8=>(.seq [.run 9,.hop (sn) O,.run 1,.hopn (.ptr i1 i2 i3) O (N),.hop (.str l1) O,.run 3] (.fork 23 (.seq [.run 7,.keep [4]] .fin) (.seq [.run 9,.keep [0,1,5]] .fin))))))) (.seq [.run 7,.keep [4]] .fin)))) ((Wrfi p w j rest O N G)):=by kernel_rfl
end
variable {O O':T AObj} {N:Nat} {G:T (T AV)}
theorem zbg (a b:Nat):IntKind.u64.wrap (IntKind.u64.wrap ((a:Nat):Int)+IntKind.u64.wrap ((b:Nat):Int))=IntKind.u64.wrap (((a+b:Nat):Nat):Int):=by
 simp only [IntKind.wrap_u64]; omega
theorem zca:IntKind.u64.wrap ((1:Nat):Int)=1:=by rw [IntKind.wrap_u64]; rfl
theorem zX {α:Type}{g:α→Bool × Nat}{x:α}{l:List α}:zn g (x::l)=if (g x).1=true then ((zn g l).1,(g x).2+(zn g l).2) else (false,(g x).2):=rfl
theorem zbN {α:Type}{g:α→Bool × Nat}{x:α}{l:List α}:ya g (x::l)=if (g x).1=true then (true,(g x).2) else ((ya g l).1,(g x).2+(ya g l).2):=rfl
theorem zhZ {w n:zi}{l:List zi}{x:Ty}{t:List Ty}:fld w (n::l) (x::t)=if (n==w)=true then some x else fld w l t:=rfl
theorem zrn {k:Int}{nm:List UInt8}{ns:List (List UInt8)}{ts:List Ty}{id:Nat}{sn sa rv:AV}{hi:Nat}(i2':Obj O id [.int .i64 k,.str nm,sn,sa,rv])(i3':SV O 1 sE 0 hi ns sn)(hl:ns.length=ts.length)(hm:ns.length<1000000)(w:List UInt8){keep:Nat}{f0:FuncId}{Q:AV→AHeap→Prop}{rest:List AFrame}
 (hK:∀ td c,((c=-1∧fld w ns ts=none)∨∃ j x,c=((j:Nat):Int)∧ts[j]?=some x∧fld w ns ts=some x)→Goal P keep f0 Q (AM.mk (RF 112 25 (tX tZ (tX (tY (.int .i64 c)) tZ)) td) rest ⟨O,N,G⟩)):Goal P keep f0 Q (AM.mk (enF 112 [.ptr id 0 0,.str w]) rest ⟨O,N,G⟩):=by
 have loop:∀ (k' i:Nat),i+k'=ns.length→fld w ns ts=fld w (ns.drop i) (ts.drop i)→Goal P keep f0 Q (Wrfi id w ((i:Nat):Int) rest O N G):=by
  intro k'
  induction k' with
  | zero =>
   intro i hk hv
   rw [List.drop_of_length_le (l:=ns) (by omega)] at hv
   exact (ot (zpn (sn:=sn) (j:=((i:Nat):Int))) ⟨((ns.length:Nat):Int),i2'.ld 2 rfl,i3'.len sSl _ _,fkf (decide_eq_false (by omega)) (hK _ _ (.inl ⟨rfl,hv⟩))⟩)
  | succ k' ih =>
   intro i hk hv
   obtain ⟨n,hw2,_⟩:=nth (l:=ns) (j:=i) (by omega)
   obtain ⟨x,hx,_⟩:=nth (l:=ts) (j:=i) (by omega)
   obtain ⟨i1,i2,i3,lo1,hi1,eA,rd,_⟩:=i3'.at sSl sEn hw2
   rw [zk hw2,zk hx] at hv
   rw [zhZ] at hv
   rcases Bool.eq_false_or_eq_true (n==w) with h | h
   · rw [if_pos h] at hv
     exact (ot (zpn (sn:=sn) (j:=((i:Nat):Int))) ⟨((ns.length:Nat):Int),i2'.ld 2 rfl,i3'.len sSl _ _,fkt (decide_eq_true (by omega)) ⟨_,_,_,n,i2'.ld 2 rfl,eA,rd.load rfl _ _,fkt h (hK _ _ (.inr ⟨i,x,rfl,hx,hv⟩))⟩⟩)
   · rw [if_neg (by rw [h]; simp)] at hv
     have nx:=ih (i+1) (by omega) hv
     rw [← zx (i:=i) (by omega)] at nx
     exact (ot (zpn (sn:=sn) (j:=((i:Nat):Int))) ⟨((ns.length:Nat):Int),i2'.ld 2 rfl,i3'.len sSl _ _,fkt (decide_eq_true (by omega)) ⟨_,_,_,n,i2'.ld 2 rfl,eA,rd.load rfl _ _,fkf h nx⟩⟩)
 refine (ot t_rfi ?_)
 exact loop ns.length 0 (Nat.zero_add _) rfl
theorem zl3 {f:Nat}{ka:Int}{na:zi}{nsa:List zi}{tsa:List Ty}{ra:Ty}{kb:Int}{nb:zi}{nsb:List zi}{tsb:List Ty}{rb:Ty}:tp.look (f+1) (.mk ka na nsa tsa ra) (.mk kb nb nsb tsb rb)=(if ka=1∨kb=1 then (true,1)
 else if ka=9 then xv (zn (fun x=>tp.look f x (.mk kb nb nsb tsb rb)) tsa)
 else if kb=9 then xv (ya (fun y=>tp.look f (.mk ka na nsa tsa ra) y) tsb)
 else if ka≠kb then (false,1)
 else if ka=6 then (na==nb,1)
 else if ka=7 then xv (zn (fun p=>match fld p.1 nsa tsa with | none=>(false,0) | some x=>tp.look f x p.2) (nsb.zip tsb))
 else if ka=8 then if tsa.length=tsb.length then xv (zn (fun p=>tp.look f p.1 p.2) ((tsb.zip tsa)++[(ra,rb)])) else (false,1)
 else (true,1)):=rfl
theorem zdm {ns:List zi}{k:Int}{nm:zi}{ts:List Ty}{r:Ty}(h:okT (.mk k nm ns ts r)=true)(hk:k=7):ns.length=ts.length:=by
 have:=(xn h).2.2.2
 unfold okK at this
 rw [if_neg (by omega),if_pos hk] at this
 simp only [Bool.and_eq_true,decide_eq_true_eq] at this
 exact this.1.1
theorem zdF {ns:List zi}{k:Int}{nm:zi}{ts:List Ty}{r:Ty}(h:okT (.mk k nm ns ts r)=true)(hk:k=8):okT r=true:=by
 rcases (xn h).2.2.1 with q | q
 · have:=((yP (xn h).1).2.1).1 hk; rw [q] at this; cases this
 · exact q
theorem vd {hi:Nat}{keep:Nat}{f0:FuncId}{Q:AV→AHeap→Prop}:∀ (f:Nat) (a b:Ty) (pa pb:Option Nat) (rest:List AFrame),cnt a+cnt b≤f→okT a=true→okT b=true→Tr O hi a pa→Tr O hi b pb →
 (∀ td,Goal P keep f0 Q (AM.mk (RF 76 250 (tX (tX tZ (tY (.int .u64 (IntKind.u64.wrap (((tp.look f a b).2:Nat):Int))))) (tX (tY (.bool (tp.look f a b).1)) tZ)) td) rest ⟨O,N,G⟩))→Goal P keep f0 Q (AM.mk (enF 76 [pv pa,pv pb]) rest ⟨O,N,G⟩)
 | f,.no,b,_,_,_,_,ha,_,_,_,_=>by rw [ye] at ha; cases ha
 | f,.mk ..,.no,_,_,_,_,_,hb,_,_,_=>by rw [ye] at hb; cases hb
 | 0,.mk ..,.mk ..,_,_,_,h,_,_,_,_,_=>by rw [xj] at h; omega
 | f+1,.mk ka na nsa ts ra,.mk kb nb nsb ts2 rb,pa,pb,rest,hc,oa,ob,ta,tb,hK=>by
  obtain ⟨id,sn,sa,ps,q,rfl,i1',i2',i3',i4',i5',i6',i7',i8',i9'⟩:=ta.inv
  obtain ⟨id2,sn2,sa2,ps2,q2,rfl,k1',k2',k3',k4',k5',k6',k7',k8',k9'⟩:=tb.inv
  have oka:=(xn oa).2.1
  have okb:=(xn ob).2.1
  have hca:cnt (.mk ka na nsa ts ra)=1+wq ts+cnt ra:=xj
  have hcb:cnt (.mk kb nb nsb ts2 rb)=1+wq ts2+cnt rb:=xj
  rw [zl3] at hK
  rcases Bool.eq_false_or_eq_true (ka==1) with a1 | a1
  · rw [if_pos (.inl (eq_of_beq a1))] at hK
    simp only [zca] at hK
    exact (ot (zb1 (k:=ka) (k2:=0) (nm:=[]) (nm2:=[]) (sa:=.nilp) (sa2:=.nilp)) ⟨i2'.ld 0 rfl,fkt a1 (hK _)⟩)
  rcases Bool.eq_false_or_eq_true (kb==1) with b1 | b1
  · rw [if_pos (.inr (eq_of_beq b1))] at hK
    simp only [zca] at hK
    exact (ot (zb1 (k:=ka) (k2:=kb) (nm:=[]) (nm2:=[]) (sa:=.nilp) (sa2:=.nilp)) ⟨i2'.ld 0 rfl,fkf a1 ⟨k2'.ld 0 rfl,fkt b1 (hK _)⟩⟩)
  rw [if_neg (fun h=>by rcases h with h | h <;> simp_all)] at hK
  rcases Bool.eq_false_or_eq_true (ka==9) with a9 | a9
  · rw [if_pos (eq_of_beq a9)] at hK
    have loop:∀ (k' i v:Nat),i+k'=ts.length→(zn (fun x=>tp.look f x (.mk kb nb nsb ts2 rb)) (ts.drop i)).1=(zn (fun x=>tp.look f x (.mk kb nb nsb ts2 rb)) ts).1→v+(zn (fun x=>tp.look f x (.mk kb nb nsb ts2 rb)) (ts.drop i)).2=1+(zn (fun x=>tp.look f x (.mk kb nb nsb ts2 rb)) ts).2→Goal P keep f0 Q (Wla id id2 ((i:Nat):Int) (IntKind.u64.wrap ((v:Nat):Int)) rest O N G):=by
     intro k'
     induction k' with
     | zero =>
      intro i v hk h1 h2
      rw [List.drop_of_length_le (by omega)] at h1 h2
      have hK':∀ td,Goal P keep f0 Q (AM.mk (RF 76 250 (tX (tX tZ (tY (.int .u64 (IntKind.u64.wrap ((v:Nat):Int))))) (tX (tY (.bool true)) tZ)) td) rest ⟨O,N,G⟩):=fun td=>by
       have:=hK td
       unfold xv at this
       rw [← h1,← h2] at this
       exact this
      exact (ot (zqV (sa:=sa) (j:=((i:Nat):Int)) (m3:=(IntKind.u64.wrap ((v:Nat):Int)))) ⟨((ts.length:Nat):Int),i2'.ld 3 rfl,by rw [← i5']; exact i4'.len pSl _ _,fkf (decide_eq_false (by omega)) (hK' _)⟩)
     | succ k' ih =>
      intro i v hk h1 h2
      obtain ⟨x,hx,hxm⟩:=nth (l:=ts) (j:=i) (by omega)
      obtain ⟨y,hy',_⟩:=nth (l:=ps) (j:=i) (by omega)
      have hcm:=zA hxm
      obtain ⟨i1,i2,i3,lo1,hi1,eA,rd,_⟩:=i4'.at pSl pEn hy'
      rw [zk hx] at h1 h2
      rw [zX] at h1 h2
      refine (ot (zqV (sa:=sa) (j:=((i:Nat):Int)) (m3:=(IntKind.u64.wrap ((v:Nat):Int)))) ⟨((ts.length:Nat):Int),i2'.ld 3 rfl,by rw [← i5']; exact i4'.len pSl _ _,fkt (decide_eq_true (by omega)) ⟨_,_,_,(pv y),i2'.ld 3 rfl,eA,rd.load rfl _ _,?_⟩⟩)
      refine vd f x (.mk kb nb nsb ts2 rb) y (some id2) _ (by omega) (oka x hxm) ob (i8' i x y hx hy') tb fun td=>?_
      rcases Bool.eq_false_or_eq_true ((tp.look f x (.mk kb nb nsb ts2 rb)).1) with hb | hb
      · rw [if_pos hb] at h1 h2
        have nx:=ih (i+1) (v+(tp.look f x (.mk kb nb nsb ts2 rb)).2) (by omega) h1 (by omega)
        rw [← zx (i:=i) (by omega),← zbg] at nx
        exact (ot (zfN (j:=((i:Nat):Int)) (s1c:=(pv y)) (m2:=(IntKind.u64.wrap (((tp.look f x (.mk kb nb nsb ts2 rb)).2:Nat):Int))) (m3:=(IntKind.u64.wrap ((v:Nat):Int))) (bl:=(tp.look f x (.mk kb nb nsb ts2 rb)).1)) (fkf (by rw [hb]; rfl) nx))
      · rw [if_neg (by rw [hb]; simp)] at h1 h2
        have hK':∀ td,Goal P keep f0 Q (AM.mk (RF 76 250 (tX (tX tZ (tY (.int .u64 (IntKind.u64.wrap ((IntKind.u64.wrap ((v:Nat):Int))+(IntKind.u64.wrap (((tp.look f x (.mk kb nb nsb ts2 rb)).2:Nat):Int))))))) (tX (tY (.bool false)) tZ)) td) rest ⟨O,N,G⟩):=fun td=>by
         have:=hK td
         unfold xv at this
         rw [← h1,← h2,← zbg] at this
         exact this
        exact (ot (zfN (j:=((i:Nat):Int)) (s1c:=(pv y)) (m2:=(IntKind.u64.wrap (((tp.look f x (.mk kb nb nsb ts2 rb)).2:Nat):Int))) (m3:=(IntKind.u64.wrap ((v:Nat):Int))) (bl:=(tp.look f x (.mk kb nb nsb ts2 rb)).1)) (fkt (by rw [hb]; rfl) (hK' _)))
    have:=loop ts.length 0 1 (Nat.zero_add _) rfl rfl
    rw [zca] at this
    exact (ot (zb1 (k:=ka) (k2:=kb) (nm:=[]) (nm2:=[]) (sa:=.nilp) (sa2:=.nilp)) ⟨i2'.ld 0 rfl,fkf a1 ⟨k2'.ld 0 rfl,fkf b1 ⟨i2'.ld 0 rfl,fkt a9 this⟩⟩⟩)
  rw [if_neg (by simpa using a9)] at hK
  rcases Bool.eq_false_or_eq_true (kb==9) with b9 | b9
  · rw [if_pos (eq_of_beq b9)] at hK
    have loop:∀ (k' i v:Nat),i+k'=ts2.length→(ya (fun y=>tp.look f (.mk ka na nsa ts ra) y) (ts2.drop i)).1=(ya (fun y=>tp.look f (.mk ka na nsa ts ra) y) ts2).1→v+(ya (fun y=>tp.look f (.mk ka na nsa ts ra) y) (ts2.drop i)).2=1+(ya (fun y=>tp.look f (.mk ka na nsa ts ra) y) ts2).2→Goal P keep f0 Q (Wlb id id2 ((i:Nat):Int) (IntKind.u64.wrap ((v:Nat):Int)) rest O N G):=by
     intro k'
     induction k' with
     | zero =>
      intro i v hk h1 h2
      rw [List.drop_of_length_le (by omega)] at h1 h2
      have hK':∀ td,Goal P keep f0 Q (AM.mk (RF 76 250 (tX (tX tZ (tY (.int .u64 (IntKind.u64.wrap ((v:Nat):Int))))) (tX (tY (.bool false)) tZ)) td) rest ⟨O,N,G⟩):=fun td=>by
       have:=hK td
       unfold xv at this
       rw [← h1,← h2] at this
       exact this
      exact (ot (zqk (sa2:=sa2) (j:=((i:Nat):Int)) (m3:=(IntKind.u64.wrap ((v:Nat):Int)))) ⟨((ts2.length:Nat):Int),k2'.ld 3 rfl,by rw [← k5']; exact k4'.len pSl _ _,fkf (decide_eq_false (by omega)) (hK' _)⟩)
     | succ k' ih =>
      intro i v hk h1 h2
      obtain ⟨x,hx,hxm⟩:=nth (l:=ts2) (j:=i) (by omega)
      obtain ⟨y,hy',_⟩:=nth (l:=ps2) (j:=i) (by omega)
      have hcm:=zA hxm
      obtain ⟨i1,i2,i3,lo1,hi1,eA,rd,_⟩:=k4'.at pSl pEn hy'
      rw [zk hx] at h1 h2
      rw [zbN] at h1 h2
      refine (ot (zqk (sa2:=sa2) (j:=((i:Nat):Int)) (m3:=(IntKind.u64.wrap ((v:Nat):Int)))) ⟨((ts2.length:Nat):Int),k2'.ld 3 rfl,by rw [← k5']; exact k4'.len pSl _ _,fkt (decide_eq_true (by omega)) ⟨_,_,_,(pv y),k2'.ld 3 rfl,eA,rd.load rfl _ _,?_⟩⟩)
      refine vd f (.mk ka na nsa ts ra) x (some id) y _ (by omega) oa (okb x hxm) ta (k8' i x y hx hy') fun td=>?_
      rcases Bool.eq_false_or_eq_true ((tp.look f (.mk ka na nsa ts ra) x).1) with hb | hb
      · rw [if_pos hb] at h1 h2
        have hK':∀ td,Goal P keep f0 Q (AM.mk (RF 76 250 (tX (tX tZ (tY (.int .u64 (IntKind.u64.wrap ((IntKind.u64.wrap ((v:Nat):Int))+(IntKind.u64.wrap (((tp.look f (.mk ka na nsa ts ra) x).2:Nat):Int))))))) (tX (tY (.bool true)) tZ)) td) rest ⟨O,N,G⟩):=fun td=>by
         have:=hK td
         unfold xv at this
         rw [← h1,← h2,← zbg] at this
         exact this
        exact (ot (zez (j:=((i:Nat):Int)) (s1c:=(pv y)) (m2:=(IntKind.u64.wrap (((tp.look f (.mk ka na nsa ts ra) x).2:Nat):Int))) (m3:=(IntKind.u64.wrap ((v:Nat):Int))) (bl:=(tp.look f (.mk ka na nsa ts ra) x).1)) (fkt hb (hK' _)))
      · rw [if_neg (by rw [hb]; simp)] at h1 h2
        have nx:=ih (i+1) (v+(tp.look f (.mk ka na nsa ts ra) x).2) (by omega) h1 (by omega)
        rw [← zx (i:=i) (by omega),← zbg] at nx
        exact (ot (zez (j:=((i:Nat):Int)) (s1c:=(pv y)) (m2:=(IntKind.u64.wrap (((tp.look f (.mk ka na nsa ts ra) x).2:Nat):Int))) (m3:=(IntKind.u64.wrap ((v:Nat):Int))) (bl:=(tp.look f (.mk ka na nsa ts ra) x).1)) (fkf hb nx))
    have:=loop ts2.length 0 1 (Nat.zero_add _) rfl rfl
    rw [zca] at this
    exact (ot (zb1 (k:=ka) (k2:=kb) (nm:=[]) (nm2:=[]) (sa:=.nilp) (sa2:=.nilp)) ⟨i2'.ld 0 rfl,fkf a1 ⟨k2'.ld 0 rfl,fkf b1 ⟨i2'.ld 0 rfl,fkf a9 ⟨k2'.ld 0 rfl,fkt b9 this⟩⟩⟩⟩)
  rw [if_neg (by simpa using b9)] at hK
  rcases Bool.eq_false_or_eq_true (ka != kb) with hne | hne
  · rw [if_pos (by simpa using hne)] at hK
    simp only [zca] at hK
    exact (ot (zb1 (k:=ka) (k2:=kb) (nm:=[]) (nm2:=[]) (sa:=.nilp) (sa2:=.nilp)) ⟨i2'.ld 0 rfl,fkf a1 ⟨k2'.ld 0 rfl,fkf b1 ⟨i2'.ld 0 rfl,fkf a9 ⟨k2'.ld 0 rfl,fkf b9 ⟨i2'.ld 0 rfl,k2'.ld 0 rfl,fkt hne (hK _)⟩⟩⟩⟩⟩)
  rw [if_neg (by simpa using hne)] at hK
  rcases Bool.eq_false_or_eq_true (ka==6) with a6 | a6
  · rw [if_pos (eq_of_beq a6)] at hK
    have hK':=hK
    simp only [zca] at hK'
    exact (ot (zb1 (k:=ka) (k2:=kb) (nm:=na) (nm2:=nb) (sa:=.nilp) (sa2:=.nilp)) ⟨i2'.ld 0 rfl,fkf a1 ⟨k2'.ld 0 rfl,fkf b1 ⟨i2'.ld 0 rfl,fkf a9 ⟨k2'.ld 0 rfl,fkf b9 ⟨i2'.ld 0 rfl,k2'.ld 0 rfl,fkf hne ⟨i2'.ld 0 rfl,fkt a6 ⟨i2'.ld 1 rfl,k2'.ld 1 rfl,hK' _⟩⟩⟩⟩⟩⟩⟩)
  rw [if_neg (by simpa using a6)] at hK
  rcases Bool.eq_false_or_eq_true (ka==7) with a7 | a7
  · rw [if_pos (eq_of_beq a7)] at hK
    have la:nsa.length=ts.length:=zdm (k:=ka) (nm:=na) (r:=ra) oa (eq_of_beq a7)
    have lb:nsb.length=ts2.length:=zdm (k:=kb) (nm:=nb) (r:=rb) ob (by have h1:=eq_of_beq a7; have h2:ka=kb:=(by simpa using hne); omega)
    have loop:∀ (k' i v:Nat),i+k'=nsb.length→(zn (fun p=>match fld p.1 nsa ts with | none=>(false,0) | some x=>tp.look f x p.2) ((nsb.drop i).zip (ts2.drop i))).1=(zn (fun p=>match fld p.1 nsa ts with | none=>(false,0) | some x=>tp.look f x p.2) (nsb.zip ts2)).1→v+(zn (fun p=>match fld p.1 nsa ts with | none=>(false,0) | some x=>tp.look f x p.2) ((nsb.drop i).zip (ts2.drop i))).2=1+(zn (fun p=>match fld p.1 nsa ts with | none=>(false,0) | some x=>tp.look f x p.2) (nsb.zip ts2)).2→Goal P keep f0 Q (Wlc id id2 ((i:Nat):Int) (IntKind.u64.wrap ((v:Nat):Int)) rest O N G):=by
     intro k'
     induction k' with
     | zero =>
      intro i v hk h1 h2
      rw [List.drop_of_length_le (l:=nsb) (by omega),List.zip_nil_left] at h1 h2
      have hK':∀ td,Goal P keep f0 Q (AM.mk (RF 76 250 (tX (tX tZ (tY (.int .u64 (IntKind.u64.wrap ((v:Nat):Int))))) (tX (tY (.bool true)) tZ)) td) rest ⟨O,N,G⟩):=fun td=>by
       have:=hK td
       unfold xv at this
       rw [← h1,← h2] at this
       exact this
      exact (ot (zqy (sn2:=sn2) (j:=((i:Nat):Int)) (m3:=(IntKind.u64.wrap ((v:Nat):Int)))) ⟨((nsb.length:Nat):Int),k2'.ld 2 rfl,k3'.len sSl _ _,fkf (decide_eq_false (by omega)) (hK' _)⟩)
     | succ k' ih =>
      intro i v hk h1 h2
      obtain ⟨n,hw2,_⟩:=nth (l:=nsb) (j:=i) (by omega)
      obtain ⟨x,hx,hxm⟩:=nth (l:=ts2) (j:=i) (by omega)
      obtain ⟨y,hy',_⟩:=nth (l:=ps2) (j:=i) (by omega)
      have hcm:=zA hxm
      obtain ⟨i1,i2,i3,lo1,hi1,eA,rd,_⟩:=k3'.at sSl sEn hw2
      rw [zk hw2,zk hx,List.zip_cons_cons] at h1 h2
      rw [zX] at h1 h2
      simp only at h1 h2
      refine (ot (zqy (sn2:=sn2) (j:=((i:Nat):Int)) (m3:=(IntKind.u64.wrap ((v:Nat):Int)))) ⟨((nsb.length:Nat):Int),k2'.ld 2 rfl,k3'.len sSl _ _,fkt (decide_eq_true (by omega)) ⟨_,_,_,n,k2'.ld 2 rfl,eA,rd.load rfl _ _,?_⟩⟩)
      refine zrn i2' i3' la i7' n fun td c hfc=>?_
      rcases hfc with ⟨rfl,hfd⟩ | ⟨j,z,rfl,hz,hfd⟩
      · rw [hfd] at h1 h2
        simp only [Bool.false_eq_true,if_false] at h1 h2
        have hK':∀ td,Goal P keep f0 Q (AM.mk (RF 76 250 (tX (tX tZ (tY (.int .u64 (IntKind.u64.wrap ((v:Nat):Int))))) (tX (tY (.bool false)) tZ)) td) rest ⟨O,N,G⟩):=fun td=>by
         have:=hK td
         unfold xv at this
         rw [← h1,← h2] at this
         exact this
        exact (ot (zfM (sa:=.nilp) (sa2:=.nilp) (c:=(-1)) (j:=((i:Nat):Int)) (m3:=(IntKind.u64.wrap ((v:Nat):Int)))) (fkt rfl (hK' _)))
      · rw [hfd] at h1 h2
        simp only at h1 h2
        obtain ⟨hjl,_⟩:=List.getElem?_eq_some_iff.1 hz
        have hzm:z∈ts:=zjJ hfd
        have hcz:=zA hzm
        obtain ⟨yz,hyz,_⟩:=nth (l:=ps) (j:=j) (by omega)
        obtain ⟨j1,j2,j3,lo2,hi2,eB,rdB,_⟩:=i4'.at pSl pEn hyz
        obtain ⟨m1,m2,m3,lo3,hi3,eC,rdC,_⟩:=k4'.at pSl pEn hy'
        refine (ot (zfM (sa:=sa) (sa2:=sa2) (c:=((j:Nat):Int)) (j:=((i:Nat):Int)) (m3:=(IntKind.u64.wrap ((v:Nat):Int)))) (fkf (decide_eq_false (by omega)) ⟨j1,j2,j3,(pv yz),m1,m2,m3,(pv y),i2'.ld 3 rfl,eB,rdB.load rfl _ _,k2'.ld 3 rfl,eC,rdC.load rfl _ _,?_⟩))
        refine vd f z x yz y _ (by omega) (oka z hzm) (okb x hxm) (i8' j z yz hz hyz) (k8' i x y hx hy') fun td=>?_
        rcases Bool.eq_false_or_eq_true ((tp.look f z x).1) with hb | hb
        · rw [if_pos hb] at h1 h2
          have nx:=ih (i+1) (v+(tp.look f z x).2) (by omega) h1 (by omega)
          rw [← zx (i:=i) (by omega),← zbg] at nx
          exact (ot (kU (c:=((j:Nat):Int)) (j:=((i:Nat):Int)) (s1c:=(pv yz)) (s2c:=(pv y)) (m2:=(IntKind.u64.wrap (((tp.look f z x).2:Nat):Int))) (m3:=(IntKind.u64.wrap ((v:Nat):Int))) (bl:=(tp.look f z x).1)) (fkf (by rw [hb]; rfl) nx))
        · rw [if_neg (by rw [hb]; simp)] at h1 h2
          have hK':∀ td,Goal P keep f0 Q (AM.mk (RF 76 250 (tX (tX tZ (tY (.int .u64 (IntKind.u64.wrap ((IntKind.u64.wrap ((v:Nat):Int))+(IntKind.u64.wrap (((tp.look f z x).2:Nat):Int))))))) (tX (tY (.bool false)) tZ)) td) rest ⟨O,N,G⟩):=fun td=>by
           have:=hK td
           unfold xv at this
           rw [← h1,← h2,← zbg] at this
           exact this
          exact (ot (kU (c:=((j:Nat):Int)) (j:=((i:Nat):Int)) (s1c:=(pv yz)) (s2c:=(pv y)) (m2:=(IntKind.u64.wrap (((tp.look f z x).2:Nat):Int))) (m3:=(IntKind.u64.wrap ((v:Nat):Int))) (bl:=(tp.look f z x).1)) (fkt (by rw [hb]; rfl) (hK' _)))
    have:=loop nsb.length 0 1 (Nat.zero_add _) rfl rfl
    rw [zca] at this
    exact (ot (zb1 (k:=ka) (k2:=kb) (nm:=[]) (nm2:=[]) (sa:=.nilp) (sa2:=.nilp)) ⟨i2'.ld 0 rfl,fkf a1 ⟨k2'.ld 0 rfl,fkf b1 ⟨i2'.ld 0 rfl,fkf a9 ⟨k2'.ld 0 rfl,fkf b9 ⟨i2'.ld 0 rfl,k2'.ld 0 rfl,fkf hne ⟨i2'.ld 0 rfl,fkf a6 ⟨i2'.ld 0 rfl,fkt a7 this⟩⟩⟩⟩⟩⟩⟩)
  rw [if_neg (by simpa using a7)] at hK
  rcases Bool.eq_false_or_eq_true (ka==8) with a8 | a8
  · rw [if_pos (eq_of_beq a8)] at hK
    have okra:okT ra=true:=zdF (k:=ka) (nm:=na) (ns:=nsa) (ts:=ts) oa (eq_of_beq a8)
    have okrb:okT rb=true:=zdF (k:=kb) (nm:=nb) (ns:=nsb) (ts:=ts2) ob (by have h1:=eq_of_beq a8; have h2:ka=kb:=(by simpa using hne); omega)
    by_cases hl:ts.length=ts2.length
    · rw [if_pos hl] at hK
      have loop:∀ (k' i v:Nat),i+k'=ts.length→(zn (fun p=>tp.look f p.1 p.2) ((ts2.drop i).zip (ts.drop i)++[(ra,rb)])).1=(zn (fun p=>tp.look f p.1 p.2) (ts2.zip ts++[(ra,rb)])).1→v+(zn (fun p=>tp.look f p.1 p.2) ((ts2.drop i).zip (ts.drop i)++[(ra,rb)])).2=1+(zn (fun p=>tp.look f p.1 p.2) (ts2.zip ts++[(ra,rb)])).2→Goal P keep f0 Q (Wld id id2 ((i:Nat):Int) (IntKind.u64.wrap ((v:Nat):Int)) rest O N G):=by
       intro k'
       induction k' with
       | zero =>
        intro i v hk h1 h2
        rw [List.drop_of_length_le (l:=ts2) (by omega),List.zip_nil_left,List.nil_append] at h1 h2
        rw [zX] at h1 h2
        refine (ot (zqv (sa:=sa) (sa2:=.nilp) (rp:=(pv q)) (rp2:=(pv q2)) (j:=((i:Nat):Int)) (m3:=(IntKind.u64.wrap ((v:Nat):Int)))) ⟨((ts.length:Nat):Int),i2'.ld 3 rfl,by rw [← i5']; exact i4'.len pSl _ _,fkf (decide_eq_false (by omega)) ⟨i2'.ld 4 rfl,k2'.ld 4 rfl,?_⟩⟩)
        refine vd f ra rb q q2 _ (by omega) okra okrb i9' k9' fun td=>?_
        have hB:(zn (fun p=>tp.look f p.1 p.2) (ts2.zip ts++[(ra,rb)])).1=(tp.look f ra rb).1∧1+(zn (fun p=>tp.look f p.1 p.2) (ts2.zip ts++[(ra,rb)])).2=v+(tp.look f ra rb).2:=by
         rcases Bool.eq_false_or_eq_true ((tp.look f ra rb).1) with hb | hb
         · rw [if_pos hb] at h1 h2
           exact ⟨by rw [← h1]; exact hb.symm,by rw [← h2]; rfl⟩
         · rw [if_neg (by rw [hb]; simp)] at h1 h2
           exact ⟨by rw [← h1]; exact hb.symm,by rw [← h2]⟩
        have hK':∀ td,Goal P keep f0 Q (AM.mk (RF 76 250 (tX (tX tZ (tY (.int .u64 (IntKind.u64.wrap ((IntKind.u64.wrap ((v:Nat):Int))+(IntKind.u64.wrap (((tp.look f ra rb).2:Nat):Int))))))) (tX (tY (.bool (tp.look f ra rb).1)) tZ)) td) rest ⟨O,N,G⟩):=fun td=>by
         have:=hK td
         unfold xv at this
         rw [hB.1,hB.2,← zbg] at this
         exact this
        exact (ot (zk0 (rp:=(pv q)) (rp2:=(pv q2)) (j:=((i:Nat):Int)) (z1c:=((ts.length:Nat):Int)) (m2:=(IntKind.u64.wrap (((tp.look f ra rb).2:Nat):Int))) (m3:=(IntKind.u64.wrap ((v:Nat):Int))) (bl:=(tp.look f ra rb).1)) (hK' _))
       | succ k' ih =>
        intro i v hk h1 h2
        obtain ⟨x,hx,hxm⟩:=nth (l:=ts) (j:=i) (by omega)
        obtain ⟨y,hy',_⟩:=nth (l:=ps) (j:=i) (by omega)
        obtain ⟨x2,hx2,hxm2⟩:=nth (l:=ts2) (j:=i) (by omega)
        obtain ⟨y2,hy2',_⟩:=nth (l:=ps2) (j:=i) (by omega)
        have hcm:=zA hxm
        have hcm2:=zA hxm2
        obtain ⟨i1,i2,i3,lo1,hi1,eA,rd,_⟩:=k4'.at pSl pEn hy2'
        obtain ⟨j1,j2,j3,lo2,hi2,eB,rdB,_⟩:=i4'.at pSl pEn hy'
        rw [zk hx,zk hx2,List.zip_cons_cons,List.cons_append] at h1 h2
        rw [zX] at h1 h2
        simp only at h1 h2
        refine (ot (zqv (sa:=sa) (sa2:=sa2) (rp:=.nilp) (rp2:=.nilp) (j:=((i:Nat):Int)) (m3:=(IntKind.u64.wrap ((v:Nat):Int)))) ⟨((ts.length:Nat):Int),i2'.ld 3 rfl,by rw [← i5']; exact i4'.len pSl _ _,fkt (decide_eq_true (by omega)) ⟨_,_,_,(pv y2),j1,j2,j3,(pv y),k2'.ld 3 rfl,eA,rd.load rfl _ _,i2'.ld 3 rfl,eB,rdB.load rfl _ _,?_⟩⟩)
        refine vd f x2 x y2 y _ (by omega) (okb x2 hxm2) (oka x hxm) (k8' i x2 y2 hx2 hy2') (i8' i x y hx hy') fun td=>?_
        rcases Bool.eq_false_or_eq_true ((tp.look f x2 x).1) with hb | hb
        · rw [if_pos hb] at h1 h2
          have nx:=ih (i+1) (v+(tp.look f x2 x).2) (by omega) h1 (by omega)
          rw [← zx (i:=i) (by omega),← zbg] at nx
          exact (ot (zfp (j:=((i:Nat):Int)) (z1c:=((ts.length:Nat):Int)) (s1c:=(pv y2)) (s2c:=(pv y)) (m2:=(IntKind.u64.wrap (((tp.look f x2 x).2:Nat):Int))) (m3:=(IntKind.u64.wrap ((v:Nat):Int))) (bl:=(tp.look f x2 x).1)) (fkf (by rw [hb]; rfl) nx))
        · rw [if_neg (by rw [hb]; simp)] at h1 h2
          have hK':∀ td,Goal P keep f0 Q (AM.mk (RF 76 250 (tX (tX tZ (tY (.int .u64 (IntKind.u64.wrap ((IntKind.u64.wrap ((v:Nat):Int))+(IntKind.u64.wrap (((tp.look f x2 x).2:Nat):Int))))))) (tX (tY (.bool false)) tZ)) td) rest ⟨O,N,G⟩):=fun td=>by
           have:=hK td
           unfold xv at this
           rw [← h1,← h2,← zbg] at this
           exact this
          exact (ot (zfp (j:=((i:Nat):Int)) (z1c:=((ts.length:Nat):Int)) (s1c:=(pv y2)) (s2c:=(pv y)) (m2:=(IntKind.u64.wrap (((tp.look f x2 x).2:Nat):Int))) (m3:=(IntKind.u64.wrap ((v:Nat):Int))) (bl:=(tp.look f x2 x).1)) (fkt (by rw [hb]; rfl) (hK' _)))
      have:=loop ts.length 0 1 (Nat.zero_add _) rfl rfl
      rw [zca] at this
      exact (ot (zb1 (k:=ka) (k2:=kb) (nm:=[]) (nm2:=[]) (sa:=sa) (sa2:=sa2)) ⟨i2'.ld 0 rfl,fkf a1 ⟨k2'.ld 0 rfl,fkf b1 ⟨i2'.ld 0 rfl,fkf a9 ⟨k2'.ld 0 rfl,fkf b9 ⟨i2'.ld 0 rfl,k2'.ld 0 rfl,fkf hne ⟨i2'.ld 0 rfl,fkf a6 ⟨i2'.ld 0 rfl,fkf a7 ⟨i2'.ld 0 rfl,fkt a8 ⟨((ts.length:Nat):Int),((ts2.length:Nat):Int),i2'.ld 3 rfl,by rw [← i5']; exact i4'.len pSl _ _,k2'.ld 3 rfl,by rw [← k5']; exact k4'.len pSl _ _,fkf (by rw [hl]; exact bne_self_eq_false _) this⟩⟩⟩⟩⟩⟩⟩⟩⟩)
    · rw [if_neg hl] at hK
      simp only [zca] at hK
      exact (ot (zb1 (k:=ka) (k2:=kb) (nm:=[]) (nm2:=[]) (sa:=sa) (sa2:=sa2)) ⟨i2'.ld 0 rfl,fkf a1 ⟨k2'.ld 0 rfl,fkf b1 ⟨i2'.ld 0 rfl,fkf a9 ⟨k2'.ld 0 rfl,fkf b9 ⟨i2'.ld 0 rfl,k2'.ld 0 rfl,fkf hne ⟨i2'.ld 0 rfl,fkf a6 ⟨i2'.ld 0 rfl,fkf a7 ⟨i2'.ld 0 rfl,fkt a8 ⟨((ts.length:Nat):Int),((ts2.length:Nat):Int),i2'.ld 3 rfl,by rw [← i5']; exact i4'.len pSl _ _,k2'.ld 3 rfl,by rw [← k5']; exact k4'.len pSl _ _,fkt (bne_iff_ne.2 (by omega)) (hK _)⟩⟩⟩⟩⟩⟩⟩⟩⟩)
  rw [if_neg (by simpa using a8)] at hK
  simp only [zca] at hK
  exact (ot (zb1 (k:=ka) (k2:=kb) (nm:=[]) (nm2:=[]) (sa:=.nilp) (sa2:=.nilp)) ⟨i2'.ld 0 rfl,fkf a1 ⟨k2'.ld 0 rfl,fkf b1 ⟨i2'.ld 0 rfl,fkf a9 ⟨k2'.ld 0 rfl,fkf b9 ⟨i2'.ld 0 rfl,k2'.ld 0 rfl,fkf hne ⟨i2'.ld 0 rfl,fkf a6 ⟨i2'.ld 0 rfl,fkf a7 ⟨i2'.ld 0 rfl,fkf a8 (hK _)⟩⟩⟩⟩⟩⟩⟩⟩)
end Go.Proofs.Ytcdigdplhlgcaaa.gx
end
section
set_option maxRecDepth 100000
set_option linter.unusedVariables false
set_option linter.unusedSectionVars false
set_option linter.unusedSimpArgs false
namespace Go.Proofs.Ytcdigdplhlgcaaa.gx
open Go Ev tp
section
variable (sa sa2:AV) (n j:Int) (q i1 i2 i3 ca cc_ cb xb:Nat) (fs:AV) (rest:List AFrame) (O:T AObj) (N:Nat) (G:T (T AV)) (p lk:Nat) (xx:AV)
noncomputable def Weac:AM:=⟨⟨108,26,(tX (tX (tW (tW (tY (.int .i64 j)) fs tZ) (.ptr ca 0 0) tZ) (tW tZ (.ptr cc_ 0 0) (tY sa))) (tX tZ (tX tZ (tY (.int .i64 n))))),   [.code (cd P 108 [1,1,0,1,0,0]),.inLoop (cd P 108 [1,1,0,1,0,0]),.inBlock 0,.code (cd P 108 [1,1,1])],[],.run,CallKind.normal,none⟩,rest,⟨O,N,G⟩⟩
noncomputable def znH:AFrame:=⟨108,26,(tX tZ (tX (tX (tX tZ (tY fs)) tZ) tZ)),   [.ops (rg P 108 [1,1,1,0]).toList ((rg P 108 [1,1,1,0]).toList.drop 1),.code (cd P 108 [1,1,1,1])],[],.run,CallKind.normal,none⟩
noncomputable def Wone:AM:=⟨⟨109,27,(tX (tX (tW (tW (tY (.int .i64 j)) fs tZ) (.ptr ca 0 0) tZ) (tX tZ (tY sa2))) (tX (tY (.ptr cb 0 0)) (tX tZ (tY (.int .i64 n))))),   [.code (cd P 109 [1,1,0,1,0,0]),.inLoop (cd P 109 [1,1,0,1,0,0]),.inBlock 0,.code (cd P 109 [1,1,1])],[],.run,CallKind.normal,none⟩,rest,⟨O,N,G⟩⟩
noncomputable def zoo:AFrame:=⟨109,27,(tX tZ (tX (tX (tX tZ (tY fs)) tZ) tZ)),   [.ops (rg P 109 [1,1,1,0]).toList ((rg P 109 [1,1,1,0]).toList.drop 1),.code (cd P 109 [1,1,1,1])],[],.run,CallKind.normal,none⟩
noncomputable def zfY:AM:=⟨⟨128,15,(tX (tX (tX (tY (.int .i64 j)) tZ) (tY fs)) (tX tZ (tY (.int .i64 n)))),   [.code (cd P 128 [1,0,1,0,0]),.inLoop (cd P 128 [1,0,1,0,0]),.inBlock 0,.code (cd P 128 [1,1])],[],.run,CallKind.normal,none⟩,rest,⟨O,N,G⟩⟩
noncomputable def Fq7y:AFrame:=⟨127,8,(tX (tX tZ (tY xx)) (tX (tY (.ptr lk 0 0)) (tY (.ptr q 0 0)))),   [.ops (rg P 127 [1,0]).toList ((rg P 127 [1,0]).toList.drop 3),.code (cd P 128 [1,0,1,0,0,1,1,0,0,1,1,0,1])],[],.run,CallKind.normal,none⟩
noncomputable def zox:AFrame:=⟨128,15,(tX (tX (tX (tY (.int .i64 j)) (tY (.fn (Fn.func (127:FuncId)) [] [.ptr ca 0 0,.ptr xb 0 0,.ptr cc_ 0 0]))) (tW (tY (.ptr i1 i2 i3)) fs tZ)) (tX (tW (tY (.bool true)) (.fn (Fn.func (127:FuncId)) [] [.ptr ca 0 0,.ptr xb 0 0,.ptr cc_ 0 0]) tZ) (tW (tY (.fn (Fn.func (127:FuncId)) [] [.ptr ca 0 0,.ptr xb 0 0,.ptr cc_ 0 0])) (.int .i64 n) tZ))),   [.ops (rg P 128 [1,0,1,0,0,1,1,0,0,1,0]).toList ((rg P 128 [1,0,1,0,0,1,1,0,0,1,0]).toList.drop 1),.code (cd P 128 [1,0,1,0,0,1,1,0,0,1,1]),.inBlock 1,.code (cd P 128 [1,0,1,0,0,1,1,1]),.inLoop (cd P (128:FuncId) [1,0,1,0,0]),.inBlock 0,.code (cd P (128:FuncId) [1,1])],[],.run,CallKind.normal,none⟩
noncomputable def Fq9y:AFrame:=⟨129,9,(tX (tX tZ (tY (.ptr p 0 0))) (tX (tY (.ptr lk 0 0)) (tY xx))),   [.ops (rg P 129 [1,0]).toList ((rg P 129 [1,0]).toList.drop 3),.code (cd P 128 [1,0,1,0,0,1,1,0,0,1,1,0,1])],[],.run,CallKind.normal,none⟩
noncomputable def znY:AFrame:=⟨128,15,(tX (tX (tX (tY (.int .i64 j)) (tY (.fn (Fn.func (129:FuncId)) [] [.ptr ca 0 0,.ptr cb 0 0,.ptr xb 0 0]))) (tW (tY (.ptr i1 i2 i3)) fs tZ)) (tX (tW (tY (.bool true)) (.fn (Fn.func (129:FuncId)) [] [.ptr ca 0 0,.ptr cb 0 0,.ptr xb 0 0]) tZ) (tW (tY (.fn (Fn.func (129:FuncId)) [] [.ptr ca 0 0,.ptr cb 0 0,.ptr xb 0 0])) (.int .i64 n) tZ))),   [.ops (rg P 128 [1,0,1,0,0,1,1,0,0,1,0]).toList ((rg P 128 [1,0,1,0,0,1,1,0,0,1,0]).toList.drop 1),.code (cd P 128 [1,0,1,0,0,1,1,0,0,1,1]),.inBlock 1,.code (cd P 128 [1,0,1,0,0,1,1,1]),.inLoop (cd P (128:FuncId) [1,0,1,0,0]),.inBlock 0,.code (cd P (128:FuncId) [1,1])],[],.run,CallKind.normal,none⟩
end
section
variable {R:AV→AHeap→Prop} {keep N p q lk ca cc_ cb xb i1c i2c i3c:Nat} {f0:FuncId} {rest:List AFrame} {O:T AObj} {sa sa2 fs xx:AV} {G:T (T AV)} {K:AM→Prop} {n j:Int} {td:List AItem} {bl:Bool}
theorem t_eac:(∃ (O1:T AObj) (O2:T AObj) (z1:Int),(T.set ((some (.cells (tY (.ptr lk 0 0)) 1 114 0 0 1 0 false .leaf))) (O) (N)=O1)∧(T.set ((some (.cells (tY (.ptr q 0 0)) 1 23 0 0 1 0 false .leaf))) (O1) (N+1)=O2)∧(lC O2 (N+2) G p 3 sa)∧(lN O2 (N+2) G 33 sa z1)∧K (Weac sa z1 0 N (N+1) (.nils 0 0) rest O2 (N+2) G))=OT f0 R keep K (.ex fun O1:T AObj=>(.ex fun O2:T AObj=>(.ex fun z1:Int=>(.seq [.run 2,.hop (.nilp) O1,.hop (.nilp) O2,.run 12,.hop (sa) O2,.hopn (.int .i64 z1) O2 (N+2),.run 4,.keep [3,5,7,13,14,15]] .fin)))) ((AM.mk (enF 108 [.ptr lk 0 0,.ptr p 0 0,.ptr q 0 0]) rest ⟨O,N,G⟩)):=by kernel_rfl
theorem t_one:(∃ (O1:T AObj) (O2:T AObj) (z1:Int),(T.set ((some (.cells (tY (.ptr lk 0 0)) 1 114 0 0 1 0 false .leaf))) (O) (N)=O1)∧(T.set ((some (.cells (tY (.ptr p 0 0)) 1 23 0 0 1 0 false .leaf))) (O1) (N+1)=O2)∧(lC O2 (N+2) G q 3 sa2)∧(lN O2 (N+2) G 33 sa2 z1)∧K (Wone sa2 z1 0 N (N+1) (.nils 0 0) rest O2 (N+2) G))=OT f0 R keep K (.ex fun O1:T AObj=>(.ex fun O2:T AObj=>(.ex fun z1:Int=>(.seq [.run 2,.hop (.nilp) O1,.hop (.nilp) O2,.run 12,.hop (sa2) O2,.hopn (.int .i64 z1) O2 (N+2),.run 4,.keep [3,4,7,13,14,15]] .fin)))) ((AM.mk (enF 109 [.ptr lk 0 0,.ptr p 0 0,.ptr q 0 0]) rest ⟨O,N,G⟩)):=by kernel_rfl
theorem t_al:(∃ (z1:Int),(lN O N G 131 fs z1)∧K (zfY z1 0 fs rest O N G))=OT f0 R keep K (.ex fun z1:Int=>(.seq [.run 8,.hopn (.int .i64 z1) O (N),.run 4,.keep [5,6,7]] .fin)) ((AM.mk (enF 128 [fs]) rest ⟨O,N,G⟩)):=by kernel_rfl
theorem zon:(((decide (j<n))=true→(∃ (i1:Nat) (i2:Nat) (i3:Nat) (s1:AV) (O1:T AObj) (O2:T AObj) (O3:T AObj) (s2:AV) (O4:T AObj) (N1:Nat),(iX 33 sa j i1 i2 i3)∧(lR O N G i1 i2 i3 s1)∧(T.set ((some (.cells (tY .nilp) 1 23 0 0 1 0 false .leaf))) (O) (N)=O1)∧(s1.cells.length.beq (1)=true∧zc (⟨O1,N+1,G⟩:AHeap) N (0) (0) s1.cells=some (⟨O2,(N+1),G⟩:AHeap))∧(zd P (⟨O2,N+1,G⟩) (131) (1) ([(0,.fn (Fn.func 127) [] [.ptr ca 0 0,.ptr N 0 0,.ptr cc_ 0 0])])=(some (.slc (N+1) 0 0 1 1,⟨O3,N+2,G⟩)))∧(zf P (⟨O3,N+2,G⟩) (Builtin.append) ((some 131)) ((some 131)) ([fs,.slc (N+1) 0 0 1 1])=(some (.val s2 ⟨O4,N1,G⟩)))∧K (Weac sa n (IntKind.i64.wrap (j+(1:Int))) ca cc_ s2 rest O4 N1 G)))∧((decide (j<n))=false→(K (AM.mk (enF 128 [fs]) ((znH fs)::rest) ⟨O,N,G⟩))))=OT f0 R keep K (.seq [.run 5] (.fork 16 (.ex fun i1:Nat=>(.ex fun i2:Nat=>(.ex fun i3:Nat=>(.ex fun s1:AV=>(.ex fun O1:T AObj=>(.ex fun O2:T AObj=>(.ex fun O3:T AObj=>(.ex fun s2:AV=>(.ex fun O4:T AObj=>(.ex fun N1:Nat=>(.seq [.run 6,.hopn (.ptr i1 i2 i3) O (N),.hop (s1) O,.hop (.nilp) O1,.hopn (.nilp) O2 (N+1),.run 4,.hopn (.slc (N+1) 0 0 1 1) O3 (N+2),.hopn (s2) O4 (N1),.run 8,.keep [3,5,7,13,14,15]] .fin))))))))))) (.seq [.run 5,.keep [24],.run 1] .fin))) ((Weac sa n j ca cc_ fs rest O N G)):=by kernel_rfl
theorem zjp:(K (AM.mk (RF 108 26 (tX tZ (tX tZ (tY (.bool bl)))) [.code (cd P (108:FuncId) [1,1,1,1])]) rest ⟨O,N,G⟩))=OT f0 R keep K (.seq [.run 4,.keep [6]] .fin) ((AM.mk (RF 128 15 (tX tZ (tY (.bool bl))) td) ((znH fs)::rest) ⟨O,N,G⟩)):=by kernel_rfl
theorem zoC:(((decide (j<n))=true→(∃ (i1:Nat) (i2:Nat) (i3:Nat) (s1:AV) (O1:T AObj) (O2:T AObj) (O3:T AObj) (s2:AV) (O4:T AObj) (N1:Nat),(iX 33 sa2 j i1 i2 i3)∧(lR O N G i1 i2 i3 s1)∧(T.set ((some (.cells (tY .nilp) 1 23 0 0 1 0 false .leaf))) (O) (N)=O1)∧(s1.cells.length.beq (1)=true∧zc (⟨O1,N+1,G⟩:AHeap) N (0) (0) s1.cells=some (⟨O2,(N+1),G⟩:AHeap))∧(zd P (⟨O2,N+1,G⟩) (131) (1) ([(0,.fn (Fn.func 129) [] [.ptr ca 0 0,.ptr cb 0 0,.ptr N 0 0])])=(some (.slc (N+1) 0 0 1 1,⟨O3,N+2,G⟩)))∧(zf P (⟨O3,N+2,G⟩) (Builtin.append) ((some 131)) ((some 131)) ([fs,.slc (N+1) 0 0 1 1])=(some (.val s2 ⟨O4,N1,G⟩)))∧K (Wone sa2 n (IntKind.i64.wrap (j+(1:Int))) ca cb s2 rest O4 N1 G)))∧((decide (j<n))=false→(K (AM.mk (enF 128 [fs]) ((zoo fs)::rest) ⟨O,N,G⟩))))=OT f0 R keep K (.seq [.run 5] (.fork 16 (.ex fun i1:Nat=>(.ex fun i2:Nat=>(.ex fun i3:Nat=>(.ex fun s1:AV=>(.ex fun O1:T AObj=>(.ex fun O2:T AObj=>(.ex fun O3:T AObj=>(.ex fun s2:AV=>(.ex fun O4:T AObj=>(.ex fun N1:Nat=>(.seq [.run 6,.hopn (.ptr i1 i2 i3) O (N),.hop (s1) O,.hop (.nilp) O1,.hopn (.nilp) O2 (N+1),.run 4,.hopn (.slc (N+1) 0 0 1 1) O3 (N+2),.hopn (s2) O4 (N1),.run 8,.keep [3,4,7,13,14,15]] .fin))))))))))) (.seq [.run 5,.keep [24],.run 1] .fin))) ((Wone sa2 n j ca cb fs rest O N G)):=by kernel_rfl
theorem zi7:(K (AM.mk (RF 109 27 (tX tZ (tX tZ (tY (.bool !bl)))) [.code (cd P (109:FuncId) [1,1,1,1])]) rest ⟨O,N,G⟩))=OT f0 R keep K (.seq [.run 5,.keep [6]] .fin) ((AM.mk (RF 128 15 (tX tZ (tY (.bool bl))) td) ((zoo fs)::rest) ⟨O,N,G⟩)):=by kernel_rfl
theorem t_q7:(((decide (j<n))=true→(∃ (i1:Nat) (i2:Nat) (i3:Nat),(iX 131 fs j i1 i2 i3)∧(zb (⟨O,N,G⟩) (i1) (i2) (i3) (1)=(some [.fn (Fn.func (127:FuncId)) [] [.ptr ca 0 0,.ptr xb 0 0,.ptr cc_ 0 0]]))∧(lC O N G ca 0 (.ptr lk 0 0))∧(lC O N G xb 0 xx)∧(lC O N G cc_ 0 (.ptr q 0 0))∧K (AM.mk (enF 75 [.ptr lk 0 0,xx,.ptr q 0 0]) ((Fq7y q lk xx)::(zox n j i1 i2 i3 ca cc_ xb fs)::rest) ⟨O,N,G⟩)))∧((decide (j<n))=false→(K (AM.mk (RF 128 15 (tX tZ (tY (.bool true))) [.code (cd P 128 [1,0,1,0,0,1,1,0,0,1,1,0,1])]) rest ⟨O,N,G⟩))))=OT f0 R keep K (.seq [.run 5] (.fork 8 (.ex fun i1:Nat=>(.ex fun i2:Nat=>(.ex fun i3:Nat=>(.seq [.run 6,.hopn (.ptr i1 i2 i3) O (N),.hop (.fn (Fn.func (127:FuncId)) [] [.ptr ca 0 0,.ptr xb 0 0,.ptr cc_ 0 0]) O,.run 12,.hop (.ptr lk 0 0) O,.hop (xx) O,.hop (.ptr q 0 0) O,.keep [4,5,6],.run 1] .fin)))) (.seq [.run 7,.keep [2]] .fin))) ((zfY n j fs rest O N G)):=by kernel_rfl
theorem zhE:((((!bl))=true→(K (AM.mk (RF 128 15 (tX tZ (tY (.bool false))) [.code (cd P 75 [1,1,0,0,0,0,0,0,0,0,0,0,0,0,0,0,1,0,1]),.inBlock 1,.code (cd P (128:FuncId) [1,0,1,0,0,1,1,1]),.inLoop (cd P (128:FuncId) [1,0,1,0,0]),.inBlock 0,.code (cd P (128:FuncId) [1,1])]) rest ⟨O,N,G⟩)))∧(((!bl))=false→(K (zfY n (IntKind.i64.wrap (j+(1:Int))) fs rest O N G))))=OT f0 R keep K (.seq [.run 7] (.fork 13 (.seq [.run 6,.keep [2]] .fin) (.seq [.run 8,.keep [5,6,7]] .fin))) ((AM.mk (RF 75 91 (tX tZ (tX tZ (tY (.bool bl)))) td) ((Fq7y q lk xx)::(zox n j i1c i2c i3c ca cc_ xb fs)::rest) ⟨O,N,G⟩)):=by kernel_rfl
theorem t_q9:(((decide (j<n))=true→(∃ (i1:Nat) (i2:Nat) (i3:Nat),(iX 131 fs j i1 i2 i3)∧(zb (⟨O,N,G⟩) (i1) (i2) (i3) (1)=(some [.fn (Fn.func (129:FuncId)) [] [.ptr ca 0 0,.ptr cb 0 0,.ptr xb 0 0]]))∧(lC O N G ca 0 (.ptr lk 0 0))∧(lC O N G cb 0 (.ptr p 0 0))∧(lC O N G xb 0 xx)∧K (AM.mk (enF 75 [.ptr lk 0 0,.ptr p 0 0,xx]) ((Fq9y p lk xx)::(znY n j i1 i2 i3 ca cb xb fs)::rest) ⟨O,N,G⟩)))∧((decide (j<n))=false→(K (AM.mk (RF 128 15 (tX tZ (tY (.bool true))) [.code (cd P 128 [1,0,1,0,0,1,1,0,0,1,1,0,1])]) rest ⟨O,N,G⟩))))=OT f0 R keep K (.seq [.run 5] (.fork 8 (.ex fun i1:Nat=>(.ex fun i2:Nat=>(.ex fun i3:Nat=>(.seq [.run 6,.hopn (.ptr i1 i2 i3) O (N),.hop (.fn (Fn.func (129:FuncId)) [] [.ptr ca 0 0,.ptr cb 0 0,.ptr xb 0 0]) O,.run 12,.hop (.ptr lk 0 0) O,.hop (.ptr p 0 0) O,.hop (xx) O,.keep [4,5,6],.run 1] .fin)))) (.seq [.run 7,.keep [2]] .fin))) ((zfY n j fs rest O N G)):=by kernel_rfl
theorem zhd:((((!!bl))=true→(K (AM.mk (RF 128 15 (tX tZ (tY (.bool false))) [.code (cd P 75 [1,1,0,0,0,0,0,0,0,0,0,0,0,0,0,0,1,0,1]),.inBlock 1,.code (cd P (128:FuncId) [1,0,1,0,0,1,1,1]),.inLoop (cd P (128:FuncId) [1,0,1,0,0]),.inBlock 0,.code (cd P (128:FuncId) [1,1])]) rest ⟨O,N,G⟩)))∧(((!!bl))=false→(K (zfY n (IntKind.i64.wrap (j+(1:Int))) fs rest O N G))))=OT f0 R keep K (.seq [.run 8] (.fork 13 (.seq [.run 6,.keep [2]] .fin) (.seq [.run 8,.keep [5,6,7]] .fin))) ((AM.mk (RF 75 91 (tX tZ (tX tZ (tY (.bool bl)))) td) ((Fq9y p lk xx)::(znY n j i1c i2c i3c ca cb xb fs)::rest) ⟨O,N,G⟩)):=by kernel_rfl
end
variable {O O':T AObj} {N:Nat} {G:T (T AV)}
def clE (c:Nat × List Nat):List AV:=[.fn (.func c.1) [] (c.2.map fun i=>.ptr i 0 0)]
theorem ke:Enc 1 clE:=⟨fun _=>rfl,fun _=>rfl,by decide⟩
theorem zjD:SlT 131 30 1 8:=SlT.mk' (by kernel_rfl) (by kernel_rfl) (by kernel_rfl) (by kernel_rfl) (by kernel_rfl) rfl rfl
def InvL (O0:T AObj) (N0 lk:Nat) (O:T AObj) (N v:Nat):Prop:=N0≤N∧(∀ j,j<N0→j≠lk→O.get j=O0.get j)∧Obj O lk [.int .u64 (IntKind.u64.wrap ((v:Nat):Int))]
theorem vi {α:Type}{g:α→Bool × Nat}:∀ l:List α,zn id (l.map g)=zn g l
 | []=>rfl
 | x::l=>by rw [List.map_cons,zX,zX,vi l]; rfl
theorem zcz {α:Type}{g:α→Bool × Nat}:∀ l:List α,zn id (l.map fun y=>(!(g y).1,(g y).2))=(!(ya g l).1,(ya g l).2)
 | []=>rfl
 | x::l=>by
  rw [List.map_cons,zX,zbN,zcz l]
  cases h:(g x).1 <;> simp [h]
def Ask (G:T (T AV)) (O0:T AObj) (N0 lk:Nat) (fs:AV) (n:Int) (j:Nat) (r:Bool × Nat):Prop:=∀ (keep:Nat) (f0:FuncId) (Q:AV→AHeap→Prop) (rest:List AFrame) (O:T AObj) (N v:Nat),InvL O0 N0 lk O N v →
 (r.1=true→∀ O' N',InvL O0 N0 lk O' N' (v+r.2)→Goal P keep f0 Q (zfY n ((j+1:Nat):Int) fs rest O' N' G)) →
 (r.1=false→∀ O' N' td,InvL O0 N0 lk O' N' (v+r.2)→Goal P keep f0 Q (AM.mk (RF 128 15 (tX tZ (tY (.bool false))) td) rest ⟨O',N',G⟩))→Goal P keep f0 Q (zfY n ((j:Nat):Int) fs rest O N G)
theorem zeE {O0:T AObj}{N0 lk:Nat}{fs:AV}{cs:List (Nat × List Nat)}{lo hi:Nat}(hs:SV O 1 clE lo hi cs fs){rs:List (Bool × Nat)}(hl:cs.length=rs.length)(hm:rs.length<2000000)
 (hA:∀ j r,rs[j]?=some r→(∀ i q,i<j→rs[i]?=some q→q.1=true)→Ask G O0 N0 lk fs ((rs.length:Nat):Int) j r) {v:Nat} (hi0:InvL O0 N0 lk O N v) {keep:Nat} {f0:FuncId} {Q:AV→AHeap→Prop} {rest:List AFrame}
 (hK:∀ O' N' td,InvL O0 N0 lk O' N' (v+(zn id rs).2)→Goal P keep f0 Q (AM.mk (RF 128 15 (tX tZ (tY (.bool (zn id rs).1))) td) rest ⟨O',N',G⟩)):Goal P keep f0 Q (AM.mk (enF 128 [fs]) rest ⟨O,N,G⟩):=by
 have loop:∀ (k' i w:Nat) (O:T AObj) (N:Nat),i+k'=rs.length→InvL O0 N0 lk O N w→(∀ i' q,i'<i→rs[i']?=some q→q.1=true)→(zn id (rs.drop i)).1=(zn id rs).1→w+(zn id (rs.drop i)).2=v+(zn id rs).2→Goal P keep f0 Q (zfY ((rs.length:Nat):Int) ((i:Nat):Int) fs rest O N G):=by
  intro k'
  induction k' with
  | zero =>
   intro i w O N hk hinv hall h1 h2
   rw [List.drop_of_length_le (by omega)] at h1 h2
   have:=fun td=>hK O N td (by rw [← h2]; exact hinv)
   rw [← h1] at this
   exact (ot (t_q7 (q:=0) (lk:=0) (ca:=0) (cc_:=0) (xb:=0) (xx:=.nilp) (n:=((rs.length:Nat):Int)) (j:=((i:Nat):Int))) (fkf (decide_eq_false (by omega)) (this _)))
  | succ k' ih =>
   intro i w O N hk hinv hall h1 h2
   obtain ⟨r,hr,_⟩:=nth (l:=rs) (j:=i) (by omega)
   rw [zk hr,zX] at h1 h2
   refine hA i r hr hall keep f0 Q rest O N w hinv (fun ht O' N' hinv'=>?_) (fun hf O' N' td hinv'=>?_)
   · rw [if_pos (show (id r).1=true from ht)] at h1 h2
     refine ih (i+1) (w+r.2) O' N' (by omega) hinv' (fun i' q hi' hq=>?_) h1 (by simp only [id] at h2; omega)
     by_cases e:i'=i
     · subst e
       rw [hr] at hq
       cases hq
       exact ht
     · exact hall i' q (by omega) hq
   · rw [if_neg (show ¬ (id r).1=true from by show ¬ r.1=true; rw [hf]; simp)] at h1 h2
     have:=hK O' N' td (by rw [← h2]; exact hinv')
     rw [← h1] at this
     exact this
 refine (ot t_al ⟨((rs.length:Nat):Int),by rw [← hl]; exact hs.len zjD _ _,?_⟩)
 exact loop rs.length 0 v O N (Nat.zero_add _) hi0 (fun i' q h=>absurd h (Nat.not_lt_zero _)) rfl rfl
def LKC (G:T (T AV)) (f:Nat):Prop:=∀ (keep:Nat) (f0:FuncId) (Q:AV→AHeap→Prop) (hi lk:Nat) (a b:Ty) (pa pb:Option Nat) (rest:List AFrame) (O:T AObj) (N v:Nat),cnt a+cnt b≤f→okT a=true→okT b=true→Tr O hi a pa→Tr O hi b pb→hi≤lk→lk<N→Obj O lk [.int .u64 (IntKind.u64.wrap ((v:Nat):Int))] →
 (∀ O' N' td,InvL O N lk O' N' (v+(tp.look f a b).2)→Goal P keep f0 Q (AM.mk (RF 75 91 (tX tZ (tX tZ (tY (.bool (tp.look f a b).1)))) td) rest ⟨O',N',G⟩))→Goal P keep f0 Q (AM.mk (enF 75 [.ptr lk 0 0,pv pa,pv pb]) rest ⟨O,N,G⟩)
theorem InvL.trans {O0 O1 O2:T AObj}{N0 N1 N2 lk v w:Nat}(a:InvL O0 N0 lk O1 N1 v)(b:InvL O1 N1 lk O2 N2 w):InvL O0 N0 lk O2 N2 w:=⟨Nat.le_trans a.1 b.1,fun j h1 h2=>(b.2.1 j (Nat.lt_of_lt_of_le h1 a.1) h2).trans (a.2.1 j h1 h2),b.2.2⟩
theorem ask7 {f hi:Nat}(L:LKC G f){O0:T AObj}{N0 lk ca ob xb idb:Nat}{fs:AV}{n:Int}{j:Nat}{x o:Ty}{y:Option Nat}{cs:List (Nat × List Nat)}{lo hi':Nat}(hs:SV O0 1 clE lo hi' cs fs)(hh:hi'≤N0)(hlo:lk<lo)(hcj:cs[j]?=some (127,[ca,xb,ob]))(hj:((j:Nat):Int)<n)(hjm:j<3000000)
 (hca:Obj O0 ca [.ptr lk 0 0]) (hob:Obj O0 ob [.ptr idb 0 0]) (hxb:Obj O0 xb [pv y]) (hca1:ca<N0) (hob1:ob<N0) (hxb1:xb<N0) (hca2:ca≠lk) (hob2:ob≠lk) (hxb2:xb≠lk) (hlk:hi≤lk) (hlN:lk<N0) (to:Tr O0 hi o (some idb)) (tx:Tr O0 hi x y) (oo:okT o=true) (ox:okT x=true) (hc:cnt x+cnt o≤f) :
 Ask G O0 N0 lk fs n j ((tp.look f x o).1,(tp.look f x o).2):=by
 intro keep f0 Q rest O N v hinv hT hF
 have hn:=hinv.1
 have s0:=hs.keep (O':=O) (fun i h1 h2=>hinv.2.1 i (by omega) (by omega)) (Nat.le_refl lo) (Nat.le_refl hi')
 obtain ⟨i1,i2,i3,_,_,eA,rd,_⟩:=s0.at zjD ke hcj
 refine (ot (t_q7 (q:=idb) (lk:=lk) (ca:=ca) (cc_:=ob) (xb:=xb) (xx:=(pv y)) (j:=((j:Nat):Int))) (fkt (decide_eq_true hj) ⟨_,_,_,eA,rd.load rfl _ _,(hca.same (hinv.2.1 ca hca1 hca2)).load 0 _ _ (Nat.le_of_ble_eq_true rfl),(hxb.same (hinv.2.1 xb hxb1 hxb2)).load 0 _ _ (Nat.le_of_ble_eq_true rfl),(hob.same (hinv.2.1 ob hob1 hob2)).load 0 _ _ (Nat.le_of_ble_eq_true rfl),?_⟩))
 have lo':∀ i,i<hi→O.get i=O0.get i:=fun i h=>hinv.2.1 i (by omega) (by omega)
 refine L keep f0 Q hi lk x o y (some idb) _ O N v (by omega) ox oo (tx.same lo' (Nat.le_refl _)) (to.same lo' (Nat.le_refl _)) hlk (by omega) hinv.2.2 fun O' N' td hi2=>?_
 have hi3:=hinv.trans hi2
 rcases Bool.eq_false_or_eq_true ((tp.look f x o).1) with hb | hb
 · exact (ot (zhE (j:=((j:Nat):Int)) (bl:=(tp.look f x o).1) (xx:=(pv y))) (fkf (by rw [hb]; rfl) (by rw [zx (by omega)]; exact hT hb O' N' hi3)))
 · exact (ot (zhE (j:=((j:Nat):Int)) (bl:=(tp.look f x o).1) (xx:=(pv y))) (fkt (by rw [hb]; rfl) (hF hb O' N' _ hi3)))
theorem ask9 {f hi:Nat}(L:LKC G f){O0:T AObj}{N0 lk ca ob xb idb:Nat}{fs:AV}{n:Int}{j:Nat}{x o:Ty}{y:Option Nat}{cs:List (Nat × List Nat)}{lo hi':Nat}(hs:SV O0 1 clE lo hi' cs fs)(hh:hi'≤N0)(hlo:lk<lo)(hcj:cs[j]?=some (129,[ca,ob,xb]))(hj:((j:Nat):Int)<n)(hjm:j<3000000)
 (hca:Obj O0 ca [.ptr lk 0 0]) (hob:Obj O0 ob [.ptr idb 0 0]) (hxb:Obj O0 xb [pv y]) (hca1:ca<N0) (hob1:ob<N0) (hxb1:xb<N0) (hca2:ca≠lk) (hob2:ob≠lk) (hxb2:xb≠lk) (hlk:hi≤lk) (hlN:lk<N0) (to:Tr O0 hi o (some idb)) (tx:Tr O0 hi x y) (oo:okT o=true) (ox:okT x=true) (hc:cnt x+cnt o≤f) :
 Ask G O0 N0 lk fs n j (!(tp.look f o x).1,(tp.look f o x).2):=by
 intro keep f0 Q rest O N v hinv hT hF
 have hn:=hinv.1
 have s0:=hs.keep (O':=O) (fun i h1 h2=>hinv.2.1 i (by omega) (by omega)) (Nat.le_refl lo) (Nat.le_refl hi')
 obtain ⟨i1,i2,i3,_,_,eA,rd,_⟩:=s0.at zjD ke hcj
 refine (ot (t_q9 (p:=idb) (lk:=lk) (ca:=ca) (cb:=ob) (xb:=xb) (xx:=(pv y)) (j:=((j:Nat):Int))) (fkt (decide_eq_true hj) ⟨_,_,_,eA,rd.load rfl _ _,(hca.same (hinv.2.1 ca hca1 hca2)).load 0 _ _ (Nat.le_of_ble_eq_true rfl),(hob.same (hinv.2.1 ob hob1 hob2)).load 0 _ _ (Nat.le_of_ble_eq_true rfl),(hxb.same (hinv.2.1 xb hxb1 hxb2)).load 0 _ _ (Nat.le_of_ble_eq_true rfl),?_⟩))
 have lo':∀ i,i<hi→O.get i=O0.get i:=fun i h=>hinv.2.1 i (by omega) (by omega)
 refine L keep f0 Q hi lk o x (some idb) y _ O N v (by omega) oo ox (to.same lo' (Nat.le_refl _)) (tx.same lo' (Nat.le_refl _)) hlk (by omega) hinv.2.2 fun O' N' td hi2=>?_
 have hi3:=hinv.trans hi2
 rcases Bool.eq_false_or_eq_true ((tp.look f o x).1) with hb | hb
 · exact (ot (zhd (j:=((j:Nat):Int)) (bl:=(tp.look f o x).1) (xx:=(pv y))) (fkt (by rw [hb]; rfl) (hF (by rw [hb]; rfl) O' N' _ hi3)))
 · exact (ot (zhd (j:=((j:Nat):Int)) (bl:=(tp.look f o x).1) (xx:=(pv y))) (fkf (by rw [hb]; rfl) (by rw [zx (by omega)]; exact hT (by rw [hb]; rfl) O' N' hi3)))
end Go.Proofs.Ytcdigdplhlgcaaa.gx
end
