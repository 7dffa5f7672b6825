import Derived.Test.YtcdigdplhlgcaaaG00
import Derived.Test.YtcdigdplhlgcaaaG01
import Derived.Test.YtcdigdplhlgcaaaG02
import Derived.Test.YtcdigdplhlgcaaaG03
import Derived.Test.YtcdigdplhlgcaaaG04
section
set_option maxRecDepth 100000
set_option linter.unusedVariables false
set_option linter.unusedSectionVars false
set_option linter.unusedSimpArgs false
namespace Go.Proofs.Ytcdigdplhlgcaaa.gx
open Go Ev tp
variable {O O':T AObj} {N:Nat} {G:T (T AV)}
def RS (O:T AObj) (l nc bx:Nat) (pp:AV) (d v:Nat):Prop:=v≤61∧Obj O nc [.int .i64 ((v:Nat):Int)]∧O.get l=some (.loop (szL nc bx pp d (if v≤60 then .ready else .done) (if v≤60 then none else some (.exit 0))))
theorem ze4 {ts:List Ty}{i:Nat}{x:Ty}(h:ts[i]?=some x):zaw (ts.drop i)=cnt x+zaw (ts.drop (i+1)):=by rw [zr h,wS]
theorem zgG {hi l nc bx d yb tb:Nat}{pp:AV}(a1:hi≤l)(a2:hi≤nc)(a3:l≠nc)(a4:l≠yb)(a5:nc≠yb)(a6:l≠tb)(a7:nc≠tb){keep:Nat}{f0:FuncId}{Q:AV→AHeap→Prop}:∀ (m:Nat) (t:Ty) (p:Option Nat) (rest:List AFrame) (O:T AObj) (n0:Nat),cnt t≤m→Tr O hi t p→RS O l nc bx pp d n0→n0≤60→Obj O yb [.yld l]→Obj O tb [.fn (Fn.func 92) [] [.ptr yb 0 0,.ptr tb 0 0]] →
 (∀ O' td,(∀ j,j≠l→j≠nc→O'.get j=O.get j)→RS O' l nc bx pp d (min (n0+cnt t) 61)→Goal P keep f0 Q (AM.mk (RF 92 33 (tX tZ (tX (tY (.bool (decide (n0+cnt t≤60)))) tZ)) td) rest ⟨O',N,G⟩)) →
 Goal P keep f0 Q (AM.mk (enF 92 [pv p,.ptr yb 0 0,.ptr tb 0 0]) rest ⟨O,N,G⟩)
 | m,.no,p,rest,O,n0,hm,ht,hr,hn,hy,hb,hK=>by
  have hp:p=none:=(ht.isNo.1).2 rfl;subst hp;rw [jq,Nat.add_zero,decide_eq_true hn,Nat.min_eq_left (by omega)] at hK;exact (Obl.goal mix (K:=Goal P keep f0 Q) (fun _ h=>h) (cast (q_ten Q keep f0 rest N O tb yb G (Goal P keep f0 Q)).symm (hK O _ (fun _ _ _=>rfl) hr)))
 | 0,.mk k nm ns ts r,p,rest,O,n0,hm,ht,hr,hn,hy,hb,hK=>by rw [z9] at hm; omega
 | m+1,.mk k nm ns ts r,p,rest,O,n0,hm,ht,hr,hn,hy,hb,hK=>by
  obtain ⟨id,sn,sa,ps,q,rfl,i1',i2',i3',i4',i5',i6',i7',i8',i9'⟩:=ht.inv;rw [z9] at hm hK;refine (Obl.goal mix (K:=Goal P keep f0 Q) (fun _ h=>h) (cast (zgf Q keep f0 rest N O id l tb yb G (Goal P keep f0 Q)).symm ⟨hy.ld 0 rfl,?_⟩));have hr':=hr;obtain ⟨r1,r2,r3⟩:=hr;rw [if_pos hn,if_pos hn] at r3;refine znc (c:=(Ftes id l tb yb)) (p:=id) (by kernel_rfl) r3 r2 a3 hn ?_;intro O1 pend o1 o2 o3 o4 o5 mm hmm;have hmm':kq P mm=kq P (AM.mk (RF 102 29 (tX tZ (tY (.bool (decide (n0<60))))) []) (((Ftes id l tb yb))::rest) ⟨O1,N,G⟩):=hmm.trans (by kernel_rfl);have rs1:RS O1 l nc bx pp d (n0+1):=by
   refine ⟨by omega,o1,?_⟩;rw [o2]
   by_cases h:n0<60
   ·rw [if_pos h,o3 h,if_pos (by omega),if_pos (by omega)]
   ·rw [if_neg h,o4 (by omega),if_neg (by omega),if_neg (by omega)]
  by_cases hlt:n0<60
  ·have tO:=i2'.same (o5 id (by omega) (by omega));have sO:=i4'.keep (O':=O1) (fun j _ hj=>o5 j (by omega) (by omega)) (Nat.le_refl 0) (Nat.le_refl hi);have hb1:=hb.same (o5 tb (fun e=>a6 e.symm) (fun e=>a7 e.symm));have hy1:=hy.same (o5 yb (fun e=>a4 e.symm) (fun e=>a5 e.symm));have loop:∀ (k' i:Nat) (O2:T AObj) (v:Nat),i+k'=ts.length→v≤60→v+zaw (ts.drop i)=n0+1+zaw ts→RS O2 l nc bx pp d v→(∀ j,j≠l→j≠nc→O2.get j=O.get j)→Goal P keep f0 Q (ztW id sa ((ts.length:Nat):Int) ((i:Nat):Int) tb rest O2 N G):=by
    intro k'
    induction k' with
    | zero =>
     intro i O2 v hk hv hs rs2 fr2;have tO2:=i2'.same (fr2 id (by omega) (by omega));have hb2:=hb.same (fr2 tb (fun e=>a6 e.symm) (fun e=>a7 e.symm));have hy2:=hy.same (fr2 yb (fun e=>a4 e.symm) (fun e=>a5 e.symm));rw [List.drop_of_length_le (by omega),vb] at hs;refine (Obl.goal mix (K:=Goal P keep f0 Q) (fun _ h=>h) (cast (zsl Q keep f0 rest N O2 id sa (pv q) ((ts.length:Nat):Int) ((i:Nat):Int) tb yb G (Goal P keep f0 Q)).symm ⟨decide_eq_false (by omega),hb2.ld 0 rfl,tO2.ld 4 rfl,?_⟩));refine zgG a1 a2 a3 a4 a5 a6 a7 m r q _ O2 v (by omega) (i9'.same (fun j hj=>fr2 j (by omega) (by omega)) (Nat.le_refl _)) rs2 hv hy2 hb2 fun O3 td fr3 rs3=>?_;rw [show v+cnt r=n0+(1+zaw ts+cnt r) by omega] at rs3;have:=fun td=>hK O3 td (fun j h1 h2=>(fr3 j h1 h2).trans (fr2 j h1 h2)) rs3;rw [show n0+(1+zaw ts+cnt r)=v+cnt r by omega] at this;exact (Obl.goal mix (K:=Goal P keep f0 Q) (fun _ h=>h) (cast (zlR Q keep f0 rest td N O3 id sa (pv q) ((ts.length:Nat):Int) ((i:Nat):Int) (decide (v+cnt r≤60)) tb yb G (Goal P keep f0 Q)).symm (this _)))
    | succ k' ih =>
     intro i O2 v hk hv hs rs2 fr2;have tO2:=i2'.same (fr2 id (by omega) (by omega));have hb2:=hb.same (fr2 tb (fun e=>a6 e.symm) (fun e=>a7 e.symm));have hy2:=hy.same (fr2 yb (fun e=>a4 e.symm) (fun e=>a5 e.symm));have sO2:=i4'.keep (O':=O2) (fun j _ hj=>fr2 j (by omega) (by omega)) (Nat.le_refl 0) (Nat.le_refl hi);obtain ⟨x,hx,hxm⟩:=nth (l:=ts) (j:=i) (by omega);obtain ⟨y,hy',_⟩:=nth (l:=ps) (j:=i) (by omega);have hc:=ze4 hx;have hcm:=xf hxm;obtain ⟨i1,i2,i3,lo1,hi1,eA,rd,_⟩:=sO2.at pSl pEn hy';refine (Obl.goal mix (K:=Goal P keep f0 Q) (fun _ h=>h) (cast (zr7 Q keep f0 rest N O2 id sa ((ts.length:Nat):Int) ((i:Nat):Int) tb yb i1 i2 i3 (pv y) G (Goal P keep f0 Q)).symm ⟨decide_eq_true (by omega),eA,rd.load rfl _ _,hb2.ld 0 rfl,?_⟩));refine zgG a1 a2 a3 a4 a5 a6 a7 m x y _ O2 v (by omega) ((i8' i x y hx hy').same (fun j hj=>fr2 j (by omega) (by omega)) (Nat.le_refl _)) rs2 hv hy2 hb2 fun O3 td fr3 rs3=>?_;have fr4:∀ j,j≠l→j≠nc→O3.get j=O.get j:=fun j h1 h2=>(fr3 j h1 h2).trans (fr2 j h1 h2)
     by_cases hgo:v+cnt x≤60
     ·rw [Nat.min_eq_left (by omega)] at rs3;have:=ih (i+1) O3 (v+cnt x) (by omega) hgo (by omega) rs3 fr4;rw [← zq (i:=i) (by omega)] at this;exact (Obl.goal mix (K:=Goal P keep f0 Q) (fun _ h=>h) (cast (zjp Q keep f0 rest td N O3 id sa ((ts.length:Nat):Int) ((i:Nat):Int) (decide (v+cnt x≤60)) i1 i2 i3 (pv y) tb yb G (Goal P keep f0 Q)).symm ⟨by rw [decide_eq_true hgo]; rfl,this⟩))
     ·rw [Nat.min_eq_right (by omega)] at rs3;have h1:¬ (n0+(1+zaw ts+cnt r)≤60):=by omega
      rw [decide_eq_false h1,Nat.min_eq_right (by omega)] at hK;exact (Obl.goal mix (K:=Goal P keep f0 Q) (fun _ h=>h) (cast (zjR Q keep f0 rest td N O3 id sa ((ts.length:Nat):Int) ((i:Nat):Int) (decide (v+cnt x≤60)) i1 i2 i3 (pv y) tb yb G (Goal P keep f0 Q)).symm ⟨by rw [decide_eq_false hgo]; rfl,hK O3 _ fr4 rs3⟩))
   have:=loop ts.length 0 O1 (n0+1) (Nat.zero_add _) (by omega) (by rw [List.drop_zero]) rs1 o5;exact (Obl.goal mix (K:=Goal P keep f0 Q) (fun _ h=>h) (Obl.swap hmm' (cast (zsL Q keep f0 rest ([]) N O1 id sa (decide (n0<60)) l tb yb ((ts.length:Nat):Int) G (Goal P keep f0 Q)).symm ⟨by rw [decide_eq_true hlt]; rfl,tO.ld 3 rfl,by rw [← i5']; exact sO.len pSl _ _,this⟩)))
  ·have h1:¬ (n0+(1+zaw ts+cnt r)≤60):=by omega
   rw [decide_eq_false h1,Nat.min_eq_right (by omega)] at hK;rw [show n0+1=61 by omega] at rs1;exact (Obl.goal mix (K:=Goal P keep f0 Q) (fun _ h=>h) (Obl.swap hmm' (cast (zrM Q keep f0 rest ([]) N O1 id (decide (n0<60)) l tb yb G (Goal P keep f0 Q)).symm ⟨by rw [decide_eq_false hlt]; rfl,hK O1 _ o5 rs1⟩)))
end Go.Proofs.Ytcdigdplhlgcaaa.gx
end
section
set_option maxRecDepth 100000
set_option linter.unusedVariables false
set_option linter.unusedSectionVars false
set_option linter.unusedSimpArgs false
namespace Go.Proofs.Ytcdigdplhlgcaaa.gx
open Go Ev tp
theorem zji (R:AV→AHeap→Prop)(keep:Nat)(f0:FuncId)(rest:List AFrame)(N:Nat)(O:T AObj)(bx:Nat)(pp:AV)(nc:Nat)(dd:Nat)(G:T (T AV))(K:AM→Prop):Obl P f0 (fun v h=>R v h) keep K [.run 1] ((AM.mk (RF 91 8 .leaf []) ((zbt dd bx pp nc)::rest) ⟨O,N,G⟩))=(K (⟨⟨14,12,(tW (tX (tY (.ptr nc 0 0)) (tY (.fn (Fn.func (91:FuncId)) [] [.ptr bx 0 0]))) pp (tW (tY pp) (.int .i64 0) tZ)),
 [.endRange (dd+1),.inBlock 0,cdi 14 [1,1,1]],[.mk (.collected dd) []],.run,CallKind.normal,none⟩,
 rest,
 ⟨O,N,G⟩⟩:AM)):=by kernel_rfl
theorem q_sfa (R:AV→AHeap→Prop)(keep:Nat)(f0:FuncId)(rest:List AFrame)(N:Nat)(O:T AObj)(n:Int)(bx:Nat)(pp:AV)(nc:Nat)(dd:Nat)(G:T (T AV))(K:AM→Prop):Obl P f0 (fun v h=>R v h) keep K [.run 3,.hop (.int .i64 n) O,.run 3,.keep [2]] ((⟨⟨14,12,(tW (tX (tY (.ptr nc 0 0)) (tY (.fn (Fn.func 91) [] [.ptr bx 0 0]))) pp (tW (tY pp) (.int .i64 0) tZ)),[.inBlock 0,cdi 14 [1,1,1]],[.mk (.collected dd) []],.run,CallKind.normal,none⟩,rest,⟨O,N,G⟩⟩:AM))=((zb (⟨O,N,G⟩) (nc) 0 0 1=(some [.int .i64 n]))∧K (⟨⟨14,12,(tX tZ (tY (.int .i64 n))),
 [cdi 14 [1,1,1,1]],[.mk (.collected dd) []],.returning,CallKind.normal,none⟩,
 rest,
 ⟨O,N,G⟩⟩:AM)):=by kernel_rfl
theorem q_sfb (R:AV→AHeap→Prop)(keep:Nat)(f0:FuncId)(rest:List AFrame)(N:Nat)(O:T AObj)(n:Int)(bx:Nat)(pp:AV)(nc:Nat)(dd:Nat)(G:T (T AV))(K:AM→Prop):Obl P f0 (fun v h=>R v h) keep K [.run 3,.hop (.int .i64 n) O,.run 3,.keep [2]] ((⟨⟨14,12,(tW (tX (tY (.ptr nc 0 0)) (tY (.fn (Fn.func 91) [] [.ptr bx 0 0]))) pp (tW (tY pp) (.int .i64 0) tZ)),[.code (.exit 0),.inBlock 0,cdi 14 [1,1,1]],[.mk (.collected dd) []],.run,CallKind.normal,none⟩,rest,⟨O,N,G⟩⟩:AM))=((zb (⟨O,N,G⟩) (nc) 0 0 1=(some [.int .i64 n]))∧K (⟨⟨14,12,(tX tZ (tY (.int .i64 n))),
 [cdi 14 [1,1,1,1]],[.mk (.collected dd) []],.returning,CallKind.normal,none⟩,
 rest,
 ⟨O,N,G⟩⟩:AM)):=by kernel_rfl
variable {O O':T AObj} {N:Nat} {G:T (T AV)}
theorem zkt {nc bx dd v:Nat}{pp:AV}(hr:RS O (dd+1) nc bx pp dd v)(hd:O.get dd=some (.dfrd (some [])))(hne:nc≠dd)(hne2:nc≠dd+1){keep:Nat}{f0:FuncId}{Q:AV→AHeap→Prop}{rest:List AFrame}
 (hK:∀ O' td,(∀ j,j≠dd+1→j≠dd→O'.get j=O.get j)→Goal P keep f0 Q (AM.mk (RF 14 12 (tX tZ (tY (.int .i64 ((v:Nat):Int)))) td) rest ⟨O',N,G⟩)) :
 Goal P keep f0 Q (AM.mk (RF 91 8 .leaf []) ((zbt dd bx pp nc)::rest) ⟨O,N,G⟩):=by
 obtain ⟨r1,r2,r3⟩:=hr;refine (Obl.goal mix (K:=Goal P keep f0 Q) (fun _ h=>h) (cast (zji Q keep f0 rest N O bx pp nc dd G (Goal P keep f0 Q)).symm ?_));have last:∀ O2:T AObj,O2.get dd=some (.dfrd (some []))→(∀ j,j≠dd+1→j≠dd→O2.get j=O.get j)→Goal P keep f0 Q (⟨⟨14,12,(tX tZ (tY (.int .i64 ((v:Nat):Int)))),[cdi 14 [1,1,1,1]],[.mk (.collected dd) []],.returning,CallKind.normal,none⟩,rest,⟨O2,N,G⟩⟩:AM):=fun O2 h1 h2=>by
  refine Goal.step (m':=AM.mk (RF 14 12 (tX tZ (tY (.int .i64 ((v:Nat):Int)))) [cdi 14 [1,1,1,1]]) rest ⟨O2.set (some (.dfrd none)) dd,N,G⟩) mix ?_ (hK _ _ fun j a b=>by rw [T.get_set,if_neg b,h2 j a b]);refine Eq.trans (b:=kB P ⟨14,12,(tX tZ (tY (.int .i64 ((v:Nat):Int)))),[cdi 14 [1,1,1,1]],[.mk (.collected dd) []],.returning,CallKind.normal,none⟩ rest ⟨O2,N,G⟩ (.mk (.collected dd) []) []) (by kernel_rfl) ?_;unfold kB;show (match zcd ⟨O2,N,G⟩ dd with | none=>none | some cs=>_)=_
  have:zcd ⟨O2,N,G⟩ dd=some []:=by
   unfold zcd;show (match O2.get dd with | some (.dfrd (some ds))=>some ds | _=>none)=_
   rw [h1]
  rw [this];rfl
 have lo:∀ st pend,O.get (dd+1)=some (.loop (szL nc bx pp dd st pend))→vM ⟨O,N,G⟩ (dd+1)=some (szL nc bx pp dd st pend):=fun st pend h=>by
  unfold vM;show (match O.get (dd+1) with | some (.loop lp)=>some lp | _=>none)=_
  rw [h]
 have g1:∀ w,(O.set (some (.loop w)) (dd+1)).get dd=some (.dfrd (some [])):=fun w=>by rw [T.get_set,if_neg (by omega),hd]
 have g2:∀ w,∀ j,j≠dd+1→j≠dd→(O.set (some (.loop w)) (dd+1)).get j=O.get j:=fun w j a b=>by rw [T.get_set,if_neg a]
 have g3:∀ w,Obj (O.set (some (.loop w)) (dd+1)) nc [.int .i64 ((v:Nat):Int)]:=fun w=>r2.same (by rw [T.get_set,if_neg hne2])
 by_cases hv:v≤60
 ·rw [if_pos hv,if_pos hv] at r3;refine Goal.step (m':=(⟨⟨14,12,(tW (tX (tY (.ptr nc 0 0)) (tY (.fn (Fn.func 91) [] [.ptr bx 0 0]))) pp (tW (tY pp) (.int .i64 0) tZ)),[.inBlock 0,cdi 14 [1,1,1]],[.mk (.collected dd) []],.run,CallKind.normal,none⟩,rest,⟨O.set (some (.loop (szL nc bx pp dd .exhausted none))) (dd+1),N,G⟩⟩:AM)) mix ?_ ?_
  ·refine Eq.trans (b:=yS ⟨14,12,(tW (tX (tY (.ptr nc 0 0)) (tY (.fn (Fn.func 91) [] [.ptr bx 0 0]))) pp (tW (tY pp) (.int .i64 0) tZ)),[.endRange (dd+1),.inBlock 0,cdi 14 [1,1,1]],[.mk (.collected dd) []],.run,CallKind.normal,none⟩ rest ⟨O,N,G⟩ (dd+1) [.inBlock 0,cdi 14 [1,1,1]]) (by kernel_rfl) ?_;unfold yS;rw [lo _ _ r3];rfl
  ·exact (Obl.goal mix (K:=Goal P keep f0 Q) (fun _ h=>h) (cast (q_sfa Q keep f0 rest N (O.set (some (.loop (szL nc bx pp dd .exhausted none))) (dd+1)) ((v:Nat):Int) bx pp nc dd G (Goal P keep f0 Q)).symm ⟨(g3 _).load 0 _ _ (Nat.le_of_ble_eq_true rfl),last _ (g1 _) (g2 _)⟩))
 ·rw [if_neg hv,if_neg hv] at r3;refine Goal.step (m':=(⟨⟨14,12,(tW (tX (tY (.ptr nc 0 0)) (tY (.fn (Fn.func 91) [] [.ptr bx 0 0]))) pp (tW (tY pp) (.int .i64 0) tZ)),[.code (.exit 0),.inBlock 0,cdi 14 [1,1,1]],[.mk (.collected dd) []],.run,CallKind.normal,none⟩,rest,⟨O.set (some (.loop (szL nc bx pp dd .exhausted (some (.exit 0))))) (dd+1),N,G⟩⟩:AM)) mix ?_ ?_
  ·refine Eq.trans (b:=yS ⟨14,12,(tW (tX (tY (.ptr nc 0 0)) (tY (.fn (Fn.func 91) [] [.ptr bx 0 0]))) pp (tW (tY pp) (.int .i64 0) tZ)),[.endRange (dd+1),.inBlock 0,cdi 14 [1,1,1]],[.mk (.collected dd) []],.run,CallKind.normal,none⟩ rest ⟨O,N,G⟩ (dd+1) [.inBlock 0,cdi 14 [1,1,1]]) (by kernel_rfl) ?_;unfold yS;rw [lo _ _ r3];rfl
  ·exact (Obl.goal mix (K:=Goal P keep f0 Q) (fun _ h=>h) (cast (q_sfb Q keep f0 rest N (O.set (some (.loop (szL nc bx pp dd .exhausted (some (.exit 0))))) (dd+1)) ((v:Nat):Int) bx pp nc dd G (Goal P keep f0 Q)).symm ⟨(g3 _).load 0 _ _ (Nat.le_of_ble_eq_true rfl),last _ (g1 _) (g2 _)⟩))
theorem zlD {t:Ty}{p:Option Nat}{hi:Nat}(ht:Tr O hi t p)(hN:hi≤N){keep:Nat}{f0:FuncId}{Q:AV→AHeap→Prop}{rest:List AFrame}
 (hK:∀ O' N' td,Ext O N O' N'→Goal P keep f0 Q (AM.mk (RF 14 12 (tX tZ (tY (.int .i64 ((min (cnt t) 61:Nat):Int)))) td) rest ⟨O',N',G⟩)):Goal P keep f0 Q (AM.mk (enF 14 [pv p]) rest ⟨O,N,G⟩):=by
 obtain ⟨O1,e1,b1,f1⟩:=Obj.mk (c:=(tY (.int .i64 0))) (el:=3) [.int .i64 0] O N 1 rfl (fun u hu=>by rcases u with _ | u <;> first | rfl | omega)
 obtain ⟨O2,s2,b2,f2⟩:=b1.store 0 [.int .i64 0] (N+1) G (Nat.le_of_ble_eq_true rfl) rfl;refine (Obl.goal mix (K:=Goal P keep f0 Q) (fun _ h=>h) (cast (q_siz Q keep f0 rest N O (pv p) O1 O2 G (Goal P keep f0 Q)).symm ⟨e1,s2,?_⟩));have hc:(pv p).cells=[pv p]:=by cases p <;> rfl
 obtain ⟨O3,e3,b3,f3⟩:=Obj.mk (c:=zd T.leaf 0 [pv p]) (el:=23) [pv p] O2 (N+1) 1 rfl (fun u hu=>by rcases u with _ | u <;> first | rfl | omega)
 refine (Obl.goal mix (K:=Goal P keep f0 Q) (fun _ h=>h) (cast (q_mad Q keep f0 (Fsiz N (pv p)::rest) (N+1) O2 (pv p) O3 G (Goal P keep f0 Q)).symm ⟨⟨by rw [hc]; cases p <;> rfl,by rw [hc]; exact e3⟩,?_⟩));refine (Obl.goal mix (K:=Goal P keep f0 Q) (fun _ h=>h) (cast (znA Q keep f0 rest _ (N+2) O3 (N+1) (pv p) N G (Goal P keep f0 Q)).symm ?_));have q0:∀ (w w':AObj) j,j<N+2→(T.set (some w) (T.set (some w') O3 (N+2)) (N+2+1)).get j=O3.get j:=fun w w' j hj=>by rw [T.get_set,if_neg (by omega),T.get_set,if_neg (by omega)]
 generalize hO4:T.set (some (.loop (szL N (N+1) (pv p) (N+2) .ready none))) (T.set (some (.dfrd (some []))) O3 (N+2)) (N+2+1)=O4;have l4:O4.get (N+2+1)=some (.loop (szL N (N+1) (pv p) (N+2) .ready none)):=by rw [← hO4,T.get_set,if_pos rfl]
 have d4:O4.get (N+2)=some (.dfrd (some [])):=by rw [← hO4,T.get_set,if_neg (by omega),T.get_set,if_pos rfl]
 have q4:∀ j,j<N+2→O4.get j=O3.get j:=fun j hj=>by rw [← hO4]; exact q0 _ _ j hj
 obtain ⟨O5,e5,b5,f5⟩:=Obj.mk (c:=(tY (.yld (N+2+1)))) (el:=50) [.yld (N+2+1)] O4 (N+4) 1 rfl (fun u hu=>by rcases u with _ | u <;> first | rfl | omega)
 obtain ⟨O6,e6,b6,f6⟩:=Obj.mk (c:=(tY .nilf)) (el:=50) [.nilf] O5 (N+5) 1 rfl (fun u hu=>by rcases u with _ | u <;> first | rfl | omega)
 obtain ⟨O7,s7,b7,f7⟩:=b6.store 0 [.fn (Fn.func 92) [] [.ptr (N+4) 0 0,.ptr (N+5) 0 0]] (N+6) G (Nat.le_of_ble_eq_true rfl) rfl;have q7:∀ j,j<N+4→O7.get j=O4.get j:=fun j hj=>(f7 j (by omega)).trans ((f6 j (by omega)).trans (f5 j (by omega)));have q8:∀ j,j<N→O7.get j=O.get j:=fun j hj=>(q7 j (by omega)).trans ((q4 j (by omega)).trans ((f3 j (by omega)).trans ((f2 j (by omega)).trans (f1 j (by omega)))));have n7:Obj O7 N [.int .i64 0]:=b2.same ((q7 N (by omega)).trans ((q4 N (by omega)).trans (f3 N (by omega))));have x7:Obj O7 (N+1) [pv p]:=b3.same ((q7 _ (by omega)).trans (q4 _ (by omega)));have rs:RS O7 (N+2+1) N (N+1) (pv p) (N+2) 0:=⟨by omega,n7,by rw [if_pos (by omega),if_pos (by omega),q7 _ (by omega),l4]⟩;have y7:Obj O7 (N+4) [.yld (N+2+1)]:=b5.same ((f7 _ (by omega)).trans (f6 _ (by omega)));refine (Obl.goal mix (K:=Goal P keep f0 Q) (fun _ h=>h) (cast (q_ma1 Q keep f0 (zbt (N+2) (N+1) (pv p) N::rest) (N+4) O4 (N+1) (N+2+1) (pv p) O5 O6 O7 G (Goal P keep f0 Q)).symm ⟨e5,e6,s7,b7.ld 0 rfl,x7.ld 0 rfl,?_⟩));refine zgG (hi:=hi) (by omega) (by omega) (by omega) (by omega) (by omega) (by omega) (by omega) (cnt t) t p _ O7 0 (Nat.le_refl _) (ht.same (fun j hj=>q8 j (by omega)) (Nat.le_refl _)) rs (by omega) y7 b7 fun O8 td fr rs8=>?_;refine (Obl.goal mix (K:=Goal P keep f0 Q) (fun _ h=>h) (cast (znr Q keep f0 (zbt (N+2) (N+1) (pv p) N::rest) td (N+6) O8 (N+1) (decide (0+cnt t≤60)) (N+2+1) (pv p) (N+4) G (Goal P keep f0 Q)).symm ?_));rw [Nat.zero_add] at rs8;refine zkt rs8 ((fr _ (by omega) (by omega)).trans ((q7 _ (by omega)).trans d4)) (by omega) (by omega) fun O9 td fr9=>?_;exact hK O9 (N+6) td ⟨by omega,fun j hj=>(fr9 j (by omega) (by omega)).trans ((fr j (by omega) (by omega)).trans (q8 j hj))⟩
end Go.Proofs.Ytcdigdplhlgcaaa.gx
end
section
set_option maxRecDepth 100000
set_option linter.unusedVariables false
set_option linter.unusedSectionVars false
set_option linter.unusedSimpArgs false
namespace Go.Proofs.Ytcdigdplhlgcaaa.gx
open Go Ev tp
section
variable (pp:AV) (p:Nat) (rp:AV) (n j:Int) (rest:List AFrame) (O:T AObj) (N:Nat) (G:T (T AV)) (s1:AV)
noncomputable def Frsz:AFrame:=frm 15 5 (tX (tX (tY pp) tZ) tZ) [opi 15 [1,0] 1,cdi 15 [1,1]]
noncomputable def Wrz:AM:=⟨frm 45 43 (tW (tW tZ (.int .i64 n) (tY (.int .i64 j))) (.ptr p 0 0) tZ) [cdi 45 [1,1,1,0,1,0,0],ili 45 [1,1,1,0,1,0,0],.inBlock 0,cdi 45 [1,1,1,1]],rest,⟨O,N,G⟩⟩
noncomputable def zoy:AFrame:=frm 45 43 (tW (tX (tX tZ (tX (tX (tY (.int .i64 n)) tZ) tZ)) (tY (.int .i64 j))) (.ptr p 0 0) (tX tZ (tX (tX (tX (tY s1) tZ) tZ) tZ))) [opi 45 [1,1,1,0,1,0,0,1,0,0] 8,.inBlock 1,cdi 45 [1,1,1,0,1,0,0,1,1],ili 45 [1,1,1,0,1,0,0],.inBlock 0,cdi 45 [1,1,1,1]]
noncomputable def zps:AFrame:=frm 45 43 (tX (tX tZ (tX (tX tZ (tX (tY (.int .i64 n)) tZ)) tZ)) (tX (tX (tX tZ (tX (tY rp) tZ)) tZ) tZ)) [opi 45 [1,1,1,1,0] 5,cdi 45 [1,0,1,0,1]]
noncomputable def zts:AFrame:=frm 45 43 (tX (tX tZ (tX (tX tZ (tX (tY (.int .i64 n)) tZ)) tZ)) (tX (tX (tX tZ (tX (tY rp) tZ)) tZ) tZ)) [opi 45 [1,1,1,1,0] 5,cdi 45 [1,0,1,0,1]]
end
section
variable {R:AV→AHeap→Prop} {keep N p:Nat} {f0:FuncId} {rest:List AFrame} {O:T AObj} {pp sa rp s1c:AV} {G:T (T AV)} {K:AM→Prop} {td:List AItem} {c n j:Int}
theorem t_rsz:(K (AM.mk (enF 45 [pp,.int .i64 0]) ((Frsz pp)::rest) ⟨O,N,G⟩))=OT f0 R keep K (.seq [.run 7,.keep [3],.run 1] .fin) ((AM.mk (enF 15 [pp]) rest ⟨O,N,G⟩)):=by kernel_rfl
theorem zn7:(K (AM.mk (RF 15 5 (tX tZ (tY (.int .i64 c))) [cdi 15 [1,1]]) rest ⟨O,N,G⟩))=OT f0 R keep K (.seq [.run 4,.keep [2]] .fin) ((AM.mk (RF 45 43 (tX tZ (tX (tY (.int .i64 c)) tZ)) td) ((Frsz pp)::rest) ⟨O,N,G⟩)):=by kernel_rfl
theorem t_rzn:(K (AM.mk (RF 45 43 (tX tZ (tX (tY (.int .i64 n)) tZ)) [cdi 45 [1,0,1,0,1],cdi 45 [1,1]]) rest ⟨O,N,G⟩))=OT f0 R keep K (.seq [.run 21,.keep [4]] .fin) ((AM.mk (enF 45 [.nilp,.int .i64 n]) rest ⟨O,N,G⟩)):=by kernel_rfl
theorem zsa:(((decide (n > (60:Int)))=true→(K (AM.mk (RF 45 43 (tX tZ (tX (tY (.int .i64 n)) tZ)) [cdi 45 [1,0,1,0,1],cdi 45 [1,1]]) rest ⟨O,N,G⟩)))∧((decide (n > (60:Int)))=false→(K (Wrz p (IntKind.i64.wrap (n+(1:Int))) 0 rest O N G))))=OT f0 R keep K (.seq [.run 14] (.fork 11 (.seq [.run 7,.keep [4]] .fin) (.seq [.run 15,.keep [0,1,5]] .fin))) ((AM.mk (enF 45 [.ptr p 0 0,.int .i64 n]) rest ⟨O,N,G⟩)):=by kernel_rfl
theorem zqt:(∃ (z1:Int),(lC O N G p 3 sa)∧(lN O N G 33 sa z1)∧((decide (j<z1))=true→(((decide (n≤(60:Int)))=true→(∃ (i1:Nat) (i2:Nat) (i3:Nat) (s1:AV),(lC O N G p 3 sa)∧(iX 33 sa j i1 i2 i3)∧(lR O N G i1 i2 i3 s1)∧K (AM.mk (enF 45 [s1,.int .i64 n]) ((zoy p n j s1)::rest) ⟨O,N,G⟩)))∧((decide (n≤(60:Int)))=false→((lC O N G p 4 rp)∧K (AM.mk (enF 45 [rp,.int .i64 n]) ((zps rp n)::rest) ⟨O,N,G⟩)))))∧((decide (j<z1))=false→((lC O N G p 4 rp)∧K (AM.mk (enF 45 [rp,.int .i64 n]) ((zts rp n)::rest) ⟨O,N,G⟩))))=OT f0 R keep K (.ex fun z1:Int=>(.seq [.run 7,.hop (sa) O,.hopn (.int .i64 z1) O (N),.run 2] (.fork 22 (.seq [.run 4] (.fork 25 (.ex fun i1:Nat=>(.ex fun i2:Nat=>(.ex fun i3:Nat=>(.ex fun s1:AV=>(.seq [.run 8,.hop (sa) O,.run 1,.hopn (.ptr i1 i2 i3) O (N),.hop (s1) O,.run 1,.keep [0,5,34,35],.run 1] .fin))))) (.seq [.run 7,.hop (rp) O,.run 1,.keep [40,41],.run 1] .fin))) (.seq [.run 11,.hop (rp) O,.run 1,.keep [40,41],.run 1] .fin)))) ((Wrz p n j rest O N G)):=by kernel_rfl
theorem zi6:(K (Wrz p c (IntKind.i64.wrap (j+(1:Int))) rest O N G))=OT f0 R keep K (.seq [.run 10,.keep [0,1,5]] .fin) ((AM.mk (RF 45 43 (tX tZ (tX (tY (.int .i64 c)) tZ)) td) ((zoy p n j s1c)::rest) ⟨O,N,G⟩)):=by kernel_rfl
theorem zjl:(K (AM.mk (RF 45 43 (tX tZ (tX (tY (.int .i64 c)) tZ)) [cdi 45 [1,0,1,0,1]]) rest ⟨O,N,G⟩))=OT f0 R keep K (.seq [.run 4,.keep [4]] .fin) ((AM.mk (RF 45 43 (tX tZ (tX (tY (.int .i64 c)) tZ)) td) ((zps rp n)::rest) ⟨O,N,G⟩)):=by kernel_rfl
theorem zlN:(K (AM.mk (RF 45 43 (tX tZ (tX (tY (.int .i64 c)) tZ)) [cdi 45 [1,0,1,0,1]]) rest ⟨O,N,G⟩))=OT f0 R keep K (.seq [.run 4,.keep [4]] .fin) ((AM.mk (RF 45 43 (tX tZ (tX (tY (.int .i64 c)) tZ)) td) ((zts rp n)::rest) ⟨O,N,G⟩)):=by kernel_rfl
end
variable {O O':T AObj} {N:Nat} {G:T (T AV)}
theorem zn0 {hi:Nat}{keep:Nat}{f0:FuncId}{Q:AV→AHeap→Prop}:∀ (m:Nat) (t:Ty) (p:Option Nat) (rest:List AFrame) (n0:Nat),cnt t≤m→Tr O hi t p→n0≤61 →
 (∀ td,Goal P keep f0 Q (AM.mk (RF 45 43 (tX tZ (tX (tY (.int .i64 ((min (n0+cnt t) 61:Nat):Int))) tZ)) td) rest ⟨O,N,G⟩))→Goal P keep f0 Q (AM.mk (enF 45 [pv p,.int .i64 ((n0:Nat):Int)]) rest ⟨O,N,G⟩)
 | m,.no,p,rest,n0,hm,ht,hn,hK=>by
  have hp:p=none:=(ht.isNo.1).2 rfl;subst hp;rw [jq,Nat.add_zero,Nat.min_eq_left hn] at hK;exact (ot (t_rzn (n:=((n0:Nat):Int))) (hK _))
 | 0,.mk k nm ns ts r,p,rest,n0,hm,ht,hn,hK=>by rw [z9] at hm; omega
 | m+1,.mk k nm ns ts r,p,rest,n0,hm,ht,hn,hK=>by
  obtain ⟨id,sn,sa,ps,q,rfl,i1',i2',i3',i4',i5',i6',i7',i8',i9'⟩:=ht.inv;rw [z9] at hm hK
  by_cases h61:n0=61
  ·subst h61;rw [Nat.min_eq_right (by omega)] at hK;exact (ot (zsa (n:=((61:Nat):Int))) (fkt (by decide) (hK _)))
  ·have w1:IntKind.i64.wrap (((n0:Nat):Int)+(1:Int))=((n0+1:Nat):Int):=by rw [IntKind.wrap_i64]; omega
   have loop:∀ (k' i v:Nat),i+k'=ts.length→v≤61→min (v+zaw (ts.drop i)+cnt r) 61=min (n0+(1+zaw ts+cnt r)) 61→Goal P keep f0 Q (Wrz id ((v:Nat):Int) ((i:Nat):Int) rest O N G):=by
    intro k'
    induction k' with
    | zero =>
     intro i v hk hv hs;rw [List.drop_of_length_le (by omega),vb,Nat.add_zero] at hs;refine (ot (zqt (sa:=sa) (rp:=(pv q)) (n:=((v:Nat):Int)) (j:=((i:Nat):Int))) ⟨((ts.length:Nat):Int),(i2'.ld 3 rfl),(by rw [← i5']; exact i4'.len pSl _ _),fkf (decide_eq_false (by omega)) ⟨(i2'.ld 4 rfl),?_⟩⟩);refine zn0 m r q _ v (by omega) i9' hv fun td=>?_;rw [hs];exact (ot (zlN (rp:=(pv q)) (c:=((min (n0+(1+zaw ts+cnt r)) 61:Nat):Int)) (n:=((v:Nat):Int))) (hK _))
    | succ k' ih =>
     intro i v hk hv hs;obtain ⟨x,hx,hxm⟩:=nth (l:=ts) (j:=i) (by omega);obtain ⟨y,hy',_⟩:=nth (l:=ps) (j:=i) (by omega);have hc:=ze4 hx;have hcm:=xf hxm
     by_cases h60:v≤60
     ·
      obtain ⟨i1,i2,i3,lo1,hi1,eA1,rd1,_⟩:=i4'.at pSl pEn hy';refine (ot (zqt (sa:=sa) (rp:=.nilp) (n:=((v:Nat):Int)) (j:=((i:Nat):Int))) ⟨((ts.length:Nat):Int),(i2'.ld 3 rfl),(by rw [← i5']; exact i4'.len pSl _ _),fkt (decide_eq_true (by omega)) (fkt (decide_eq_true (by omega)) ⟨_,_,_,(pv y),(i2'.ld 3 rfl),eA1,(rd1.load rfl _ _),?_⟩)⟩);refine zn0 m x y _ v (by omega) (i8' i x y hx hy') (by omega) fun td=>?_;have:=ih (i+1) (min (v+cnt x) 61) (by omega) (by omega) (by omega);rw [← zq (i:=i) (by omega)] at this;exact (ot (zi6 (c:=((min (v+cnt x) 61:Nat):Int)) (n:=((v:Nat):Int)) (j:=((i:Nat):Int)) (s1c:=(pv y))) this)
     ·
      refine (ot (zqt (sa:=sa) (rp:=(pv q)) (n:=((v:Nat):Int)) (j:=((i:Nat):Int))) ⟨((ts.length:Nat):Int),(i2'.ld 3 rfl),(by rw [← i5']; exact i4'.len pSl _ _),fkt (decide_eq_true (by omega)) (fkf (decide_eq_false (by omega)) ⟨(i2'.ld 4 rfl),?_⟩)⟩);refine zn0 m r q _ v (by omega) i9' hv fun td=>?_;rw [show min (v+cnt r) 61=min (n0+(1+zaw ts+cnt r)) 61 by omega];exact (ot (zjl (rp:=(pv q)) (c:=((min (n0+(1+zaw ts+cnt r)) 61:Nat):Int)) (n:=((v:Nat):Int))) (hK _))
   refine (ot (zsa (n:=((n0:Nat):Int))) (fkf (decide_eq_false (by omega)) ?_));rw [w1];exact loop ts.length 0 (n0+1) (Nat.zero_add _) (by omega) (by rw [List.drop_zero]; omega)
theorem zaP {t:Ty}{p:Option Nat}{hi:Nat}(ht:Tr O hi t p){keep:Nat}{f0:FuncId}{Q:AV→AHeap→Prop}{rest:List AFrame}
 (hK:∀ td,Goal P keep f0 Q (AM.mk (RF 15 5 (tX tZ (tY (.int .i64 ((min (cnt t) 61:Nat):Int)))) td) rest ⟨O,N,G⟩)):Goal P keep f0 Q (AM.mk (enF 15 [pv p]) rest ⟨O,N,G⟩):=by
 refine (ot (t_rsz (pp:=(pv p))) ?_);refine zn0 (cnt t) t p _ 0 (Nat.le_refl _) ht (by omega) fun td=>?_;rw [Nat.zero_add];exact (ot (zn7 (c:=((min (cnt t) 61:Nat):Int)) (pp:=(pv p))) (hK _))
end Go.Proofs.Ytcdigdplhlgcaaa.gx
end
section
set_option maxRecDepth 100000
set_option linter.unusedVariables false
set_option linter.unusedSectionVars false
set_option linter.unusedSimpArgs false
namespace Go.Proofs.Ytcdigdplhlgcaaa.gx
open Go Ev tp
section
variable (p:Nat) (sn sa rp:AV) (w:List UInt8) (j:Int) (rest:List AFrame) (O:T AObj) (N:Nat) (G:T (T AV)) (i1 i2 i3 i4 i5 i6:Nat) (s1:AV) (z1:Int) (l1:List UInt8)
noncomputable def Wwa:AM:=⟨frm 48 146 (tW (tX tZ (tY (.int .i64 j))) (.ptr p 0 0) (tX (tY (.str w)) tZ)) [cdi 48 [1,1,1,0,1,0,1,1,1,0,0,1,0,0],ili 48 [1,1,1,0,1,0,1,1,1,0,0,1,0,0],.inBlock 1,cdi 48 [1,1,1,0,1,0,1,1,1,0,1],.inBlock 0,cdi 48 [1,1,1,1]],rest,⟨O,N,G⟩⟩
noncomputable def Wwb:AM:=⟨frm 48 146 (tW tZ (.ptr p 0 0) (tX (tY (.str w)) (tY (.int .i64 j)))) [cdi 48 [1,1,1,0,1,0,1,1,1,1,1,0,0,1,0,0],ili 48 [1,1,1,0,1,0,1,1,1,1,1,0,0,1,0,0],.inBlock 3,cdi 48 [1,1,1,0,1,0,1,1,1,1,1,0,1],.inBlock 0,cdi 48 [1,1,1,1]],rest,⟨O,N,G⟩⟩
noncomputable def Wwc:AM:=⟨frm 48 146 (tW (tX (tX (tY (.int .i64 j)) tZ) tZ) (.ptr p 0 0) (tX (tY (.str w)) tZ)) [cdi 48 [1,1,1,0,1,0,1,1,1,1,1,1,1,0,0,1,0,0],ili 48 [1,1,1,0,1,0,1,1,1,1,1,1,1,0,0,1,0,0],.inBlock 5,cdi 48 [1,1,1,0,1,0,1,1,1,1,1,1,1,0,1],.inBlock 0,cdi 48 [1,1,1,1]],rest,⟨O,N,G⟩⟩
noncomputable def zki:AFrame:=frm 48 146 (tW (tX (tX (tX (tX (tY (.bool true)) (tY sa)) (tW (tY (.int .i64 j)) (.ptr p 0 0) tZ)) (tX (tX (tY (.ptr p 0 0)) tZ) (tW (tY (.str (w++([(44:UInt8),(32:UInt8)]:List UInt8)++l1++([(58:UInt8),(32:UInt8)]:List UInt8)))) (.bool true) tZ))) (tW (tX (tX (tY (.str (w++([(44:UInt8),(32:UInt8)]:List UInt8)))) (tY (.ptr i4 i5 i6))) (tW (tY (.str l1)) sa tZ)) (.int .i64 j) (tX (tW (tY (.ptr p 0 2)) (.int .i64 j) tZ) (tX (tY (.ptr p 0 0)) tZ)))) (.ptr p 0 0) (tX (tW (tX (tX (tY (.str w)) (tY (.int .i64 j))) (tW (tY (.ptr i1 i2 i3)) (.ptr p 0 3) tZ)) (.str (w++([(44:UInt8),(32:UInt8)]:List UInt8))) (tX (tX (tY (.ptr p 0 0)) tZ) (tX (tY (.ptr p 0 0)) tZ))) (tX (tX (tX (tY (.str (w++([(44:UInt8),(32:UInt8)]:List UInt8)))) (tY s1)) (tW (tY (.str (w++([(44:UInt8),(32:UInt8)]:List UInt8)++l1))) (.int .i64 z1) tZ)) (tX (tW (tY sn) (.ptr p 0 0) tZ) (tW (tY (.ptr p 0 3)) (.int .i64 j) tZ))))) [.drw (rg P 48 [1,1,1,0,1,0,1,1,1,0,0,1,0,0,1,0,0,1]) [17,18,19] [16,15,14,13,12,11,10,9,8,7,6,5,4,3,2,1,0],.inBlock 2,cdi 48 [1,1,1,0,1,0,1,1,1,0,0,1,0,0,1,1],ili 48 [1,1,1,0,1,0,1,1,1,0,0,1,0,0],.inBlock 1,cdi 48 [1,1,1,0,1,0,1,1,1,0,1],.inBlock 0,cdi 48 [1,1,1,1]]
noncomputable def zk5:AFrame:=frm 48 146 (tW (tX (tX (tX (tX (tY (.bool false)) (tY sa)) (tW (tY (.int .i64 j)) (.ptr p 0 0) tZ)) (tX (tX (tY (.ptr p 0 0)) tZ) (tW (tY (.str (w++l1++([(58:UInt8),(32:UInt8)]:List UInt8)))) (.bool true) tZ))) (tW (tX (tX tZ (tY (.ptr i4 i5 i6))) (tW (tY (.str l1)) sa tZ)) (.int .i64 j) (tX (tW (tY (.ptr p 0 2)) (.int .i64 j) tZ) (tX (tY (.ptr p 0 0)) tZ)))) (.ptr p 0 0) (tX (tW (tX (tX tZ (tY (.int .i64 j))) (tW (tY (.ptr i1 i2 i3)) (.ptr p 0 3) tZ)) (.str w) (tX (tX (tY (.ptr p 0 0)) tZ) (tX (tY (.ptr p 0 0)) tZ))) (tX (tX (tX (tY (.str w)) (tY s1)) (tW (tY (.str (w++l1))) (.int .i64 z1) tZ)) (tX (tW (tY sn) (.ptr p 0 0) tZ) (tW (tY (.ptr p 0 3)) (.int .i64 j) tZ))))) [.drw (rg P 48 [1,1,1,0,1,0,1,1,1,0,0,1,0,0,1,0,0,1]) [17,18,19] [16,15,14,13,12,11,10,9,8,7,6,5,4,3,2,1,0],.inBlock 2,cdi 48 [1,1,1,0,1,0,1,1,1,0,0,1,0,0,1,1],ili 48 [1,1,1,0,1,0,1,1,1,0,0,1,0,0],.inBlock 1,cdi 48 [1,1,1,0,1,0,1,1,1,0,1],.inBlock 0,cdi 48 [1,1,1,1]]
noncomputable def zmA:AFrame:=frm 48 146 (tW (tX (tX (tX tZ (tX (tX (tY (.str (w++([(44:UInt8),(32:UInt8)]:List UInt8)))) tZ) tZ)) tZ) tZ) (.ptr p 0 0) (tX tZ (tW tZ (.int .i64 j) (tX tZ (tX (tX (tY s1) tZ) tZ))))) [opi 48 [1,1,1,0,1,0,1,1,1,1,1,0,0,1,0,0,1,0,0,1] 8,.inBlock 4,cdi 48 [1,1,1,0,1,0,1,1,1,1,1,0,0,1,0,0,1,1],ili 48 [1,1,1,0,1,0,1,1,1,1,1,0,0,1,0,0],.inBlock 3,cdi 48 [1,1,1,0,1,0,1,1,1,1,1,0,1],.inBlock 0,cdi 48 [1,1,1,1]]
noncomputable def zj1:AFrame:=frm 48 146 (tW (tX (tX (tX tZ (tX (tX (tY (.str w)) tZ) tZ)) tZ) tZ) (.ptr p 0 0) (tX tZ (tW tZ (.int .i64 j) (tX tZ (tX (tX (tY s1) tZ) tZ))))) [opi 48 [1,1,1,0,1,0,1,1,1,1,1,0,0,1,0,0,1,0,0,1] 8,.inBlock 4,cdi 48 [1,1,1,0,1,0,1,1,1,1,1,0,0,1,0,0,1,1],ili 48 [1,1,1,0,1,0,1,1,1,1,1,0,0,1,0,0],.inBlock 3,cdi 48 [1,1,1,0,1,0,1,1,1,1,1,0,1],.inBlock 0,cdi 48 [1,1,1,1]]
noncomputable def zo5:AFrame:=frm 48 146 (tX (tX (tX (tX tZ (tX tZ (tX (tY rp) tZ))) (tX (tX tZ (tX (tY (.str (([(102:UInt8),(110:UInt8),(40:UInt8)]:List UInt8)++w++([(41:UInt8),(32:UInt8),(45:UInt8),(62:UInt8),(32:UInt8)]:List UInt8)))) tZ)) tZ)) tZ) tZ) [opi 48 [1,1,1,0,1,0,1,1,1,1,1,0,1,0] 7,cdi 48 [1,1,1,0,1,0,1,0,1],.inBlock 0,cdi 48 [1,1,1,1]]
noncomputable def zhx:AFrame:=frm 48 146 (tW (tX (tX (tY (.int .i64 j)) tZ) (tX tZ (tX (tX tZ (tX tZ (tY (.str (w++([(32:UInt8),(124:UInt8),(32:UInt8)]:List UInt8)++([(40:UInt8)]:List UInt8)))))) tZ))) (.ptr p 0 0) (tX (tX tZ (tX tZ (tX tZ (tX tZ (tY s1))))) tZ)) [opi 48 [1,1,1,0,1,0,1,1,1,1,1,1,1,0,0,1,0,0,1,0,0,1,1,0] 9,.inBlock 6,cdi 48 [1,1,1,0,1,0,1,1,1,1,1,1,1,0,0,1,0,0,1,1],ili 48 [1,1,1,0,1,0,1,1,1,1,1,1,1,0,0,1,0,0],.inBlock 5,cdi 48 [1,1,1,0,1,0,1,1,1,1,1,1,1,0,1],.inBlock 0,cdi 48 [1,1,1,1]]
noncomputable def zix:AFrame:=frm 48 146 (tW (tX (tX (tW tZ (.int .i64 j) (tX (tX (tX (tY s1) tZ) tZ) tZ)) tZ) tZ) (.ptr p 0 0) (tX (tX (tX (tX (tX (tX (tY (.str (w++([(32:UInt8),(124:UInt8),(32:UInt8)]:List UInt8)))) tZ) tZ) tZ) tZ) tZ) tZ)) [opi 48 [1,1,1,0,1,0,1,1,1,1,1,1,1,0,0,1,0,0,1,0,0,1,1,1] 8,.inBlock 6,cdi 48 [1,1,1,0,1,0,1,1,1,1,1,1,1,0,0,1,0,0,1,1],ili 48 [1,1,1,0,1,0,1,1,1,1,1,1,1,0,0,1,0,0],.inBlock 5,cdi 48 [1,1,1,0,1,0,1,1,1,1,1,1,1,0,1],.inBlock 0,cdi 48 [1,1,1,1]]
noncomputable def zhq:AFrame:=frm 48 146 (tW (tX (tX (tY (.int .i64 j)) tZ) (tX tZ (tX (tX tZ (tX tZ (tY (.str (w++([(40:UInt8)]:List UInt8)))))) tZ))) (.ptr p 0 0) (tX (tX tZ (tX tZ (tX tZ (tX tZ (tY s1))))) tZ)) [opi 48 [1,1,1,0,1,0,1,1,1,1,1,1,1,0,0,1,0,0,1,0,0,1,1,0] 9,.inBlock 6,cdi 48 [1,1,1,0,1,0,1,1,1,1,1,1,1,0,0,1,0,0,1,1],ili 48 [1,1,1,0,1,0,1,1,1,1,1,1,1,0,0,1,0,0],.inBlock 5,cdi 48 [1,1,1,0,1,0,1,1,1,1,1,1,1,0,1],.inBlock 0,cdi 48 [1,1,1,1]]
noncomputable def zhr:AFrame:=frm 48 146 (tW (tX (tX (tW tZ (.int .i64 j) (tX (tX (tX (tY s1) tZ) tZ) tZ)) tZ) tZ) (.ptr p 0 0) (tX (tX (tX (tX (tX (tX (tY (.str w)) tZ) tZ) tZ) tZ) tZ) tZ)) [opi 48 [1,1,1,0,1,0,1,1,1,1,1,1,1,0,0,1,0,0,1,0,0,1,1,1] 8,.inBlock 6,cdi 48 [1,1,1,0,1,0,1,1,1,1,1,1,1,0,0,1,0,0,1,1],ili 48 [1,1,1,0,1,0,1,1,1,1,1,1,1,0,0,1,0,0],.inBlock 5,cdi 48 [1,1,1,0,1,0,1,1,1,1,1,1,1,0,1],.inBlock 0,cdi 48 [1,1,1,1]]
end
section
variable {R:AV→AHeap→Prop} {keep N p i1c i2c i3c i4c i5c i6c q:Nat} {f0:FuncId} {rest:List AFrame} {O:T AObj} {k j z1c k2:Int} {nm w l1c wa:List UInt8} {G:T (T AV)} {K:AM→Prop} {sn sa s1c rp:AV} {td:List AItem}
theorem zdQ:(∃ (O1:T AObj) (O2:T AObj),(T.set ((some (.cells (tW (tW (tY (.str [])) (.str []) tZ) (.str []) (tW (tY (.str [])) (.str []) tZ)) 5 93 0 0 1 0 false .leaf))) (O) (N)=O1)∧(zc (⟨O1,N+1,G⟩) (N) (0) (0) ([.str [UInt8.ofNat (97),UInt8.ofNat (110),UInt8.ofNat (121)],.str [UInt8.ofNat (105),UInt8.ofNat (110),UInt8.ofNat (116)],.str [UInt8.ofNat (98),UInt8.ofNat (111),UInt8.ofNat (111),UInt8.ofNat (108)],.str [UInt8.ofNat (115),UInt8.ofNat (116),UInt8.ofNat (114)],.str [UInt8.ofNat (110),UInt8.ofNat (105),UInt8.ofNat (108)]])=(some ⟨O2,N+1,G⟩))∧(lC O2 (N+1) G p 0 (.int .i64 k))∧(((k==(6:Int)))=true→((lC O2 (N+1) G p 1 (.str nm))∧K (AM.mk (RF 48 146 (tX tZ (tY (.str nm))) [cdi 48 [1,1,1,0,1,0,1,0,1],.inBlock 0,cdi 48 [1,1,1,1]]) rest ⟨O2,N+1,G⟩)))∧(((k==(6:Int)))=false→((((k==(7:Int)))=true→(K (Wwa p ([]) 0 rest O2 (N+1) G)))∧(((k==(7:Int)))=false→((((k==(8:Int)))=true→(K (Wwb p ([]) 0 rest O2 (N+1) G)))∧(((k==(8:Int)))=false→((((k==(9:Int)))=true→(K (Wwc p ([]) 0 rest O2 (N+1) G)))∧(((k==(9:Int)))=false→(∃ (l1:List UInt8),(lC O2 (N+1) G p 0 (.int .i64 k))∧((0:Int)≤IntKind.i64.wrap (k - (1:Int))∧IntKind.i64.wrap (k - (1:Int))<(↑5:Int))∧(zb (⟨O2,N+1,G⟩) (N) (0) (0+(IntKind.i64.wrap (k - (1:Int))).toNat*1) (1)=(some [.str l1]))∧K (AM.mk (RF 48 146 (tX tZ (tY (.str l1))) [cdi 48 [1,1,1,0,1,0,1,0,1]]) rest ⟨O2,N+1,G⟩))))))))))=OT f0 R keep K (.ex fun O1:T AObj=>(.ex fun O2:T AObj=>(.seq [.run 7,.hop (.nilp) O1,.hop (.nilp) O2,.run 11,.hop (.int .i64 k) O2,.run 7] (.fork 13 (.seq [.run 6,.hop (.str nm) O2,.run 3,.keep [2]] .fin) (.seq [.run 6] (.fork 19 (.seq [.run 8,.keep [0,4,5]] .fin) (.seq [.run 6] (.fork 56 (.seq [.run 8,.keep [0,4,6]] .fin) (.seq [.run 6] (.fork 90 (.seq [.run 8,.keep [0,4,7]] .fin) (.ex fun l1:List UInt8=>(.seq [.run 8,.hop (.int .i64 k) O2,.run 1,.op,.hop (.str l1) O2,.run 3,.keep [2]] .fin)))))))))))) ((AM.mk (enF 48 [.ptr p 0 0]) rest ⟨O,N,G⟩)):=by kernel_rfl
theorem zkn:(∃ (z1:Int),(lC O N G p 3 sa)∧(lN O N G 33 sa z1)∧((decide (j<z1))=true→(((decide (j > (0:Int)))=true→(∃ (i1:Nat) (i2:Nat) (i3:Nat) (l1:List UInt8) (i4:Nat) (i5:Nat) (i6:Nat) (s1:AV),(w.length+2<1099511627776)∧(lC O N G p 2 sn)∧(iX 32 sn j i1 i2 i3)∧(lR O N G i1 i2 i3 (.str l1))∧((w++([(44:UInt8),(32:UInt8)]:List UInt8)).length+l1.length<1099511627776)∧((w++([(44:UInt8),(32:UInt8)]:List UInt8)++l1).length+2<1099511627776)∧(lC O N G p 3 sa)∧(iX 33 sa j i4 i5 i6)∧(lR O N G i4 i5 i6 s1)∧K (AM.mk (enF 48 [s1]) ((zki p sn sa w j i1 i2 i3 i4 i5 i6 s1 z1 l1)::rest) ⟨O,N,G⟩)))∧((decide (j > (0:Int)))=false→(∃ (i1:Nat) (i2:Nat) (i3:Nat) (l1:List UInt8) (i4:Nat) (i5:Nat) (i6:Nat) (s1:AV),(lC O N G p 2 sn)∧(iX 32 sn j i1 i2 i3)∧(lR O N G i1 i2 i3 (.str l1))∧(w.length+l1.length<1099511627776)∧((w++l1).length+2<1099511627776)∧(lC O N G p 3 sa)∧(iX 33 sa j i4 i5 i6)∧(lR O N G i4 i5 i6 s1)∧K (AM.mk (enF 48 [s1]) ((zk5 p sn sa w j i1 i2 i3 i4 i5 i6 s1 z1 l1)::rest) ⟨O,N,G⟩)))))∧((decide (j<z1))=false→((1+w.length<1099511627776)∧((([(123:UInt8)]:List UInt8)++w).length+1<1099511627776)∧K (AM.mk (RF 48 146 (tX tZ (tY (.str (([(123:UInt8)]:List UInt8)++w++([(125:UInt8)]:List UInt8))))) [cdi 48 [1,1,1,0,1,0,1,0,1],.inBlock 0,cdi 48 [1,1,1,1]]) rest ⟨O,N,G⟩))))=OT f0 R keep K (.ex fun z1:Int=>(.seq [.run 7,.hop (sa) O,.hopn (.int .i64 z1) O (N),.run 2] (.fork 27 (.seq [.run 10] (.fork 31 (.ex fun i1:Nat=>(.ex fun i2:Nat=>(.ex fun i3:Nat=>(.ex fun l1:List UInt8=>(.ex fun i4:Nat=>(.ex fun i5:Nat=>(.ex fun i6:Nat=>(.ex fun s1:AV=>(.seq [.run 3,.op,.run 7,.hop (sn) O,.run 1,.hopn (.ptr i1 i2 i3) O (N),.hop (.str l1) O,.op,.op,.run 3,.hop (sa) O,.run 1,.hopn (.ptr i4 i5 i6) O (N),.hop (s1) O,.run 1] .fin))))))))) (.ex fun i1:Nat=>(.ex fun i2:Nat=>(.ex fun i3:Nat=>(.ex fun l1:List UInt8=>(.ex fun i4:Nat=>(.ex fun i5:Nat=>(.ex fun i6:Nat=>(.ex fun s1:AV=>(.seq [.run 7,.hop (sn) O,.run 1,.hopn (.ptr i1 i2 i3) O (N),.hop (.str l1) O,.op,.op,.run 3,.hop (sa) O,.run 1,.hopn (.ptr i4 i5 i6) O (N),.hop (s1) O,.run 1] .fin))))))))))) (.seq [.run 5,.op,.op,.run 3,.keep [2]] .fin)))) ((Wwa p w j rest O N G)):=by kernel_rfl
theorem zgs:((True)∧(qq P (⟨O,N,G⟩) (BinOp.add) (9) (true) (.str (w++[(44:UInt8),(32:UInt8)]++l1c)) (.str [UInt8.ofNat (58),UInt8.ofNat (32)])=(some (.str (w++[(44:UInt8),(32:UInt8)]++l1c++[(58:UInt8),(32:UInt8)]))))∧(qq P (⟨O,N,G⟩) (BinOp.add) (9) (false) (.str (w++[(44:UInt8),(32:UInt8)])) (.str l1c)=(some (.str (w++[(44:UInt8),(32:UInt8)]++l1c))))∧(lR O N G i1c i2c i3c (.str l1c))∧(lC O N G p 2 sn)∧(okD 300 sn=true)∧((w++[(44:UInt8),(32:UInt8)]++l1c++[(58:UInt8),(32:UInt8)]).length+wa.length<1099511627776)∧K (Wwa p (w++[(44:UInt8),(32:UInt8)]++l1c++[(58:UInt8),(32:UInt8)]++wa) (IntKind.i64.wrap (j+(1:Int))) rest O N G))=OT f0 R keep K (.seq [.hret [.nilp],.op,.run 9,.keep [0,4,5]] .fin) ((AM.mk (RF 48 146 (tX tZ (tY (.str wa))) td) ((zki p sn sa w j i1c i2c i3c i4c i5c i6c s1c z1c l1c)::rest) ⟨O,N,G⟩)):=by kernel_rfl
theorem zgN:((True)∧(qq P (⟨O,N,G⟩) (BinOp.add) (9) (true) (.str (w++l1c)) (.str [UInt8.ofNat (58),UInt8.ofNat (32)])=(some (.str (w++l1c++[(58:UInt8),(32:UInt8)]))))∧(qq P (⟨O,N,G⟩) (BinOp.add) (9) (false) (.str w) (.str l1c)=(some (.str (w++l1c))))∧(lR O N G i1c i2c i3c (.str l1c))∧(lC O N G p 2 sn)∧(okD 300 sn=true)∧((w++l1c++[(58:UInt8),(32:UInt8)]).length+wa.length<1099511627776)∧K (Wwa p (w++l1c++[(58:UInt8),(32:UInt8)]++wa) (IntKind.i64.wrap (j+(1:Int))) rest O N G))=OT f0 R keep K (.seq [.hret [.nilp],.op,.run 9,.keep [0,4,5]] .fin) ((AM.mk (RF 48 146 (tX tZ (tY (.str wa))) td) ((zk5 p sn sa w j i1c i2c i3c i4c i5c i6c s1c z1c l1c)::rest) ⟨O,N,G⟩)):=by kernel_rfl
theorem zkC:(∃ (z1:Int),(lC O N G p 3 sa)∧(lN O N G 33 sa z1)∧((decide (j<z1))=true→(((decide (j > (0:Int)))=true→(∃ (i1:Nat) (i2:Nat) (i3:Nat) (s1:AV),(w.length+2<1099511627776)∧(lC O N G p 3 sa)∧(iX 33 sa j i1 i2 i3)∧(lR O N G i1 i2 i3 s1)∧K (AM.mk (enF 48 [s1]) ((zmA p w j s1)::rest) ⟨O,N,G⟩)))∧((decide (j > (0:Int)))=false→(∃ (i1:Nat) (i2:Nat) (i3:Nat) (s1:AV),(lC O N G p 3 sa)∧(iX 33 sa j i1 i2 i3)∧(lR O N G i1 i2 i3 s1)∧K (AM.mk (enF 48 [s1]) ((zj1 p w j s1)::rest) ⟨O,N,G⟩)))))∧((decide (j<z1))=false→((3+w.length<1099511627776)∧((([(102:UInt8),(110:UInt8),(40:UInt8)]:List UInt8)++w).length+5<1099511627776)∧(lC O N G p 4 rp)∧K (AM.mk (enF 48 [rp]) ((zo5 rp w)::rest) ⟨O,N,G⟩))))=OT f0 R keep K (.ex fun z1:Int=>(.seq [.run 7,.hop (sa) O,.hopn (.int .i64 z1) O (N),.run 2] (.fork 64 (.seq [.run 10] (.fork 68 (.ex fun i1:Nat=>(.ex fun i2:Nat=>(.ex fun i3:Nat=>(.ex fun s1:AV=>(.seq [.run 3,.op,.run 7,.hop (sa) O,.run 1,.hopn (.ptr i1 i2 i3) O (N),.hop (s1) O,.keep [0,6,71,78],.run 1] .fin))))) (.ex fun i1:Nat=>(.ex fun i2:Nat=>(.ex fun i3:Nat=>(.ex fun s1:AV=>(.seq [.run 7,.hop (sa) O,.run 1,.hopn (.ptr i1 i2 i3) O (N),.hop (s1) O,.keep [0,6,71,78],.run 1] .fin))))))) (.seq [.run 5,.op,.op,.run 3,.hop (rp) O,.keep [83,87],.run 1] .fin)))) ((Wwb p w j rest O N G)):=by kernel_rfl
theorem zgB:(((w++[(44:UInt8),(32:UInt8)]).length+wa.length<1099511627776)∧K (Wwb p (w++[(44:UInt8),(32:UInt8)]++wa) (IntKind.i64.wrap (j+(1:Int))) rest O N G))=OT f0 R keep K (.seq [.run 1,.op,.run 9,.keep [0,4,6]] .fin) ((AM.mk (RF 48 146 (tX tZ (tY (.str wa))) td) ((zmA p w j s1c)::rest) ⟨O,N,G⟩)):=by kernel_rfl
theorem zhd:((w.length+wa.length<1099511627776)∧K (Wwb p (w++wa) (IntKind.i64.wrap (j+(1:Int))) rest O N G))=OT f0 R keep K (.seq [.run 1,.op,.run 9,.keep [0,4,6]] .fin) ((AM.mk (RF 48 146 (tX tZ (tY (.str wa))) td) ((zj1 p w j s1c)::rest) ⟨O,N,G⟩)):=by kernel_rfl
theorem zjx:((([(102:UInt8),(110:UInt8),(40:UInt8)]++w++[(41:UInt8),(32:UInt8),(45:UInt8),(62:UInt8),(32:UInt8)]).length+wa.length<1099511627776)∧K (AM.mk (RF 48 146 (tX tZ (tY (.str ([(102:UInt8),(110:UInt8),(40:UInt8)]++w++[(41:UInt8),(32:UInt8),(45:UInt8),(62:UInt8),(32:UInt8)]++wa)))) [cdi 48 [1,1,1,0,1,0,1,0,1],.inBlock 0,cdi 48 [1,1,1,1]]) rest ⟨O,N,G⟩))=OT f0 R keep K (.seq [.run 1,.op,.run 3,.keep [2]] .fin) ((AM.mk (RF 48 146 (tX tZ (tY (.str wa))) td) ((zo5 rp w)::rest) ⟨O,N,G⟩)):=by kernel_rfl
theorem zey:(∃ (z1:Int),(lC O N G p 3 sa)∧(lN O N G 33 sa z1)∧((decide (j<z1))=true→(((decide (j > (0:Int)))=true→(∃ (i1:Nat) (i2:Nat) (i3:Nat),(w.length+3<1099511627776)∧(lC O N G p 3 sa)∧(iX 33 sa j i1 i2 i3)∧(lR O N G i1 i2 i3 (.ptr q 0 0))∧(lC O N G q 0 (.int .i64 k2))∧(((k2==(8:Int)))=true→(∃ (i4:Nat) (i5:Nat) (i6:Nat) (s1:AV),((w++([(32:UInt8),(124:UInt8),(32:UInt8)]:List UInt8)).length+1<1099511627776)∧(lC O N G p 3 sa)∧(iX 33 sa j i4 i5 i6)∧(lR O N G i4 i5 i6 s1)∧K (AM.mk (enF 48 [s1]) ((zhx p w j s1)::rest) ⟨O,N,G⟩)))∧(((k2==(8:Int)))=false→(∃ (i4:Nat) (i5:Nat) (i6:Nat) (s1:AV),(lC O N G p 3 sa)∧(iX 33 sa j i4 i5 i6)∧(lR O N G i4 i5 i6 s1)∧K (AM.mk (enF 48 [s1]) ((zix p w j s1)::rest) ⟨O,N,G⟩)))))∧((decide (j > (0:Int)))=false→(∃ (i1:Nat) (i2:Nat) (i3:Nat),(lC O N G p 3 sa)∧(iX 33 sa j i1 i2 i3)∧(lR O N G i1 i2 i3 (.ptr q 0 0))∧(lC O N G q 0 (.int .i64 k2))∧(((k2==(8:Int)))=true→(∃ (i4:Nat) (i5:Nat) (i6:Nat) (s1:AV),(w.length+1<1099511627776)∧(lC O N G p 3 sa)∧(iX 33 sa j i4 i5 i6)∧(lR O N G i4 i5 i6 s1)∧K (AM.mk (enF 48 [s1]) ((zhq p w j s1)::rest) ⟨O,N,G⟩)))∧(((k2==(8:Int)))=false→(∃ (i4:Nat) (i5:Nat) (i6:Nat) (s1:AV),(lC O N G p 3 sa)∧(iX 33 sa j i4 i5 i6)∧(lR O N G i4 i5 i6 s1)∧K (AM.mk (enF 48 [s1]) ((zhr p w j s1)::rest) ⟨O,N,G⟩)))))))∧((decide (j<z1))=false→(K (AM.mk (RF 48 146 (tX tZ (tY (.str w))) [cdi 48 [1,1,1,0,1,0,1,0,1],.inBlock 0,cdi 48 [1,1,1,1]]) rest ⟨O,N,G⟩))))=OT f0 R keep K (.ex fun z1:Int=>(.seq [.run 7,.hop (sa) O,.hopn (.int .i64 z1) O (N),.run 2] (.fork 98 (.seq [.run 10] (.fork 102 (.ex fun i1:Nat=>(.ex fun i2:Nat=>(.ex fun i3:Nat=>(.seq [.run 3,.op,.run 7,.hop (sa) O,.run 1,.hopn (.ptr i1 i2 i3) O (N),.hop (.ptr q 0 0) O,.run 2,.hop (.int .i64 k2) O,.run 2] (.fork 115 (.ex fun i4:Nat=>(.ex fun i5:Nat=>(.ex fun i6:Nat=>(.ex fun s1:AV=>(.seq [.run 3,.op,.run 3,.hop (sa) O,.run 1,.hopn (.ptr i4 i5 i6) O (N),.hop (s1) O,.keep [0,7,117,124],.run 1] .fin))))) (.ex fun i4:Nat=>(.ex fun i5:Nat=>(.ex fun i6:Nat=>(.ex fun s1:AV=>(.seq [.run 6,.hop (sa) O,.run 1,.hopn (.ptr i4 i5 i6) O (N),.hop (s1) O,.keep [0,7,128,135],.run 1] .fin)))))))))) (.ex fun i1:Nat=>(.ex fun i2:Nat=>(.ex fun i3:Nat=>(.seq [.run 7,.hop (sa) O,.run 1,.hopn (.ptr i1 i2 i3) O (N),.hop (.ptr q 0 0) O,.run 2,.hop (.int .i64 k2) O,.run 2] (.fork 115 (.ex fun i4:Nat=>(.ex fun i5:Nat=>(.ex fun i6:Nat=>(.ex fun s1:AV=>(.seq [.run 3,.op,.run 3,.hop (sa) O,.run 1,.hopn (.ptr i4 i5 i6) O (N),.hop (s1) O,.keep [0,7,117,124],.run 1] .fin))))) (.ex fun i4:Nat=>(.ex fun i5:Nat=>(.ex fun i6:Nat=>(.ex fun s1:AV=>(.seq [.run 6,.hop (sa) O,.run 1,.hopn (.ptr i4 i5 i6) O (N),.hop (s1) O,.keep [0,7,128,135],.run 1] .fin)))))))))))) (.seq [.run 8,.keep [2]] .fin)))) ((Wwc p w j rest O N G)):=by kernel_rfl
theorem zf7:(((w++[(32:UInt8),(124:UInt8),(32:UInt8)]++[(40:UInt8)]).length+wa.length<1099511627776)∧((w++[(32:UInt8),(124:UInt8),(32:UInt8)]++[(40:UInt8)]++wa).length+1<1099511627776)∧K (Wwc p (w++[(32:UInt8),(124:UInt8),(32:UInt8)]++[(40:UInt8)]++wa++([(41:UInt8)]:List UInt8)) (IntKind.i64.wrap (j+(1:Int))) rest O N G))=OT f0 R keep K (.seq [.run 1,.op,.op,.run 9,.keep [0,4,7]] .fin) ((AM.mk (RF 48 146 (tX tZ (tY (.str wa))) td) ((zhx p w j s1c)::rest) ⟨O,N,G⟩)):=by kernel_rfl
theorem zfi:(((w++[(32:UInt8),(124:UInt8),(32:UInt8)]).length+wa.length<1099511627776)∧K (Wwc p (w++[(32:UInt8),(124:UInt8),(32:UInt8)]++wa) (IntKind.i64.wrap (j+(1:Int))) rest O N G))=OT f0 R keep K (.seq [.run 1,.op,.run 9,.keep [0,4,7]] .fin) ((AM.mk (RF 48 146 (tX tZ (tY (.str wa))) td) ((zix p w j s1c)::rest) ⟨O,N,G⟩)):=by kernel_rfl
theorem zft:(((w++[(40:UInt8)]).length+wa.length<1099511627776)∧((w++[(40:UInt8)]++wa).length+1<1099511627776)∧K (Wwc p (w++[(40:UInt8)]++wa++([(41:UInt8)]:List UInt8)) (IntKind.i64.wrap (j+(1:Int))) rest O N G))=OT f0 R keep K (.seq [.run 1,.op,.op,.run 9,.keep [0,4,7]] .fin) ((AM.mk (RF 48 146 (tX tZ (tY (.str wa))) td) ((zhq p w j s1c)::rest) ⟨O,N,G⟩)):=by kernel_rfl
theorem zfD:((w.length+wa.length<1099511627776)∧K (Wwc p (w++wa) (IntKind.i64.wrap (j+(1:Int))) rest O N G))=OT f0 R keep K (.seq [.run 1,.op,.run 9,.keep [0,4,7]] .fin) ((AM.mk (RF 48 146 (tX tZ (tY (.str wa))) td) ((zhr p w j s1c)::rest) ⟨O,N,G⟩)):=by kernel_rfl
end
variable {O O':T AObj} {N:Nat} {G:T (T AV)}
theorem ziB {h:AHeap}{c:Bool}{a b:List UInt8}(hl:a.length+b.length<1099511627776):qq P h BinOp.add 9 c (.str a) (.str b)=some (.str (a++b)):=by
 show zrp a b=_;unfold zrp;rw [if_pos hl]
theorem ke {hi:Nat}{keep:Nat}{f0:FuncId}{Q:AV→AHeap→Prop}:∀ (m:Nat) (t:Ty) (p:Option Nat) (rest:List AFrame) (O:T AObj) (N:Nat),cnt t≤m∧cnt t≤60→okT t=true→Tr O hi t p→hi≤N →
 (∀ O' N' td,Ext O N O' N'→Goal P keep f0 Q (AM.mk (RF 48 146 (tX tZ (tY (.str (wr t)))) td) rest ⟨O',N',G⟩))→Goal P keep f0 Q (AM.mk (enF 48 [pv p]) rest ⟨O,N,G⟩)
 | m,.no,p,rest,O,N,hm,hok,ht,hN,hK=>by rw [xX] at hok; cases hok
 | 0,.mk k nm ns ts r,p,rest,O,N,hm,hok,ht,hN,hK=>by rw [z9] at hm; omega
 | m+1,.mk k nm ns ts r,p,rest,O,N,hm,hok,ht,hN,hK=>by
  obtain ⟨id,sn,sa,ps,q,rfl,i1',i2',i3',i4',i5',i6',i7',i8',i9'⟩:=ht.inv;have hlen:=yf hok hm.2;obtain ⟨oo,okx,okr',okk⟩:=xG hok;have hf:=wQ oo;rw [z9] at hm;rw [zjZ] at hK hlen;obtain ⟨O1,e1,b1,f1⟩:=Obj.mk (c:=(tW (tW (tY (.str [])) (.str []) tZ) (.str []) (tW (tY (.str [])) (.str []) tZ))) (el:=93) [.str [],.str [],.str [],.str [],.str []] O N 5 rfl (fun u hu=>by rcases u with _ | _ | _ | _ | _ | u <;> first | rfl | omega)
  obtain ⟨O2,s2,b2,f2⟩:=b1.store 0 [.str [UInt8.ofNat (97),UInt8.ofNat (110),UInt8.ofNat (121)],.str [UInt8.ofNat (105),UInt8.ofNat (110),UInt8.ofNat (116)],.str [UInt8.ofNat (98),UInt8.ofNat (111),UInt8.ofNat (111),UInt8.ofNat (108)],.str [UInt8.ofNat (115),UInt8.ofNat (116),UInt8.ofNat (114)],.str [UInt8.ofNat (110),UInt8.ofNat (105),UInt8.ofNat (108)]] (N+1) G (Nat.le_of_ble_eq_true rfl) rfl;have ex0:Ext O N O2 (N+1):=⟨Nat.le_succ _,fun j hj=>(f2 j (by omega)).trans (f1 j (by omega))⟩;have tO:=i2'.same (ex0.2 id (by omega))
  by_cases k6:k=6
  ·subst k6;exact (ot (zdQ (k:=6) (nm:=nm)) ⟨_,_,e1,s2,tO.ld 0 rfl,fkt rfl ⟨tO.ld 1 rfl,hK O2 (N+1) _ ex0⟩⟩)
  have b6:(k==(6:Int))=false:=beq_eq_false_iff_ne.2 k6
  by_cases k7:k=7
  ·subst k7;have hnl:ns.length=ts.length:=by
    unfold okK at okk;simp only [show ((7:Int)=6)=False by decide,if_false,if_true,Bool.and_eq_true,decide_eq_true_eq] at okk;exact okk.1.1
   rw [show txt 7 nm ns ts (wrL ts) (wr r)=[123]++zD [44,32] 0 (zck ns (wrL ts))++[125] from rfl] at hK hlen
   generalize hFA:zD [44,32] 0 (zck ns (wrL ts))=FA at hK hlen;have hfin:=hK
   (try simp only [List.length_append,List.length_cons,List.length_nil] at hlen)
   have loop:∀ (k' i:Nat) (O2:T AObj) (N2:Nat) (w:List UInt8),i+k'=ts.length→Ext O N O2 N2→w++zD [44,32] i (zck (ns.drop i) (wrL (ts.drop i)))=FA→Goal P keep f0 Q (Wwa id w ((i:Nat):Int) rest O2 N2 G):=by
    intro k'
    induction k' with
    | zero =>
     intro i O2 N2 w hk ex hw;have exle:=ex.1;have tO2:=i2'.same (ex.2 id (by omega));have sO2:=i4'.keep (O':=O2) (fun j _ hj=>ex.2 j (by omega)) (Nat.le_refl 0) (Nat.le_refl hi);rw [List.drop_of_length_le (l:=ts) (by omega)] at hw;have hw':w=FA:=by rw [← hw]; simp [wrL,zck,zD]
     subst hw';exact (ot (zkn (sn:=.nilp) (sa:=sa) (j:=((i:Nat):Int))) ⟨((ts.length:Nat):Int),(tO2.ld 3 rfl),(by rw [← i5']; exact sO2.len pSl _ _),fkf (decide_eq_false (by omega)) ⟨(by (try simp only [List.length_append,List.length_cons,List.length_nil]); omega),(by (try simp only [List.length_append,List.length_cons,List.length_nil]); omega),hfin O2 N2 _ ex⟩⟩)
    | succ k' ih =>
     intro i O2 N2 w hk ex hw;have exle:=ex.1;have tO2:=i2'.same (ex.2 id (by omega));have sO2:=i4'.keep (O':=O2) (fun j _ hj=>ex.2 j (by omega)) (Nat.le_refl 0) (Nat.le_refl hi);have nO2:=i3'.keep (O':=O2) (fun j _ hj=>ex.2 j (by omega)) (Nat.le_refl 0) (Nat.le_refl hi);obtain ⟨x,hx,hxm⟩:=nth (l:=ts) (j:=i) (by omega);obtain ⟨y,hy',_⟩:=nth (l:=ps) (j:=i) (by omega);have hcm:=xf hxm;obtain ⟨n,hw2,_⟩:=nth (l:=ns) (j:=i) (by omega);rw [zr hw2] at hw;rw [zr hx] at hw;simp only [wrL,zck,zD] at hw;rcases Bool.eq_false_or_eq_true (decide (((i:Nat):Int) > (0:Int))) with hc21 | hc21
     ·
      obtain ⟨i1,i2,i3,lo22,hi22,eA22,rd22,_⟩:=nO2.at sSl sEn hw2;obtain ⟨i4,i5,i6,lo23,hi23,eA23,rd23,_⟩:=sO2.at pSl pEn hy';have hi0:i≠0:=by simp only [decide_eq_true_eq,decide_eq_false_iff_not] at *; omega
      rw [if_neg hi0] at hw;have hl:=congrArg List.length hw;simp only [List.length_append,List.length_cons,List.length_nil] at hl;refine (ot (zkn (sn:=sn) (sa:=sa) (j:=((i:Nat):Int))) ⟨((ts.length:Nat):Int),(tO2.ld 3 rfl),(by rw [← i5']; exact sO2.len pSl _ _),fkt (decide_eq_true (by omega)) (fkt hc21 ⟨_,_,_,n,_,_,_,(pv y),(by (try simp only [List.length_append,List.length_cons,List.length_nil]); omega),(tO2.ld 2 rfl),eA22,(rd22.load rfl _ _),(by (try simp only [List.length_append,List.length_cons,List.length_nil]); omega),(by (try simp only [List.length_append,List.length_cons,List.length_nil]); omega),(tO2.ld 3 rfl),eA23,(rd23.load rfl _ _),?_⟩)⟩)
      refine ke m x y _ O2 N2 (by omega) (okx x hxm) ((i8' i x y hx hy').ext ex hN) (Nat.le_trans hN ex.1) fun O3 N3 td ex3=>?_;have rdx:=rd22.same (O':=O3) (ex3.2 _ (by omega));have tO3:=i2'.same ((ex.trans ex3).2 id (by omega));have nO3:=i3'.keep (O':=O3) (fun j _ hj=>(ex.trans ex3).2 j (by omega)) (Nat.le_refl 0) (Nat.le_refl hi);have nx:=ih (i+1) O3 N3 (w++[(44:UInt8),(32:UInt8)]++n++[(58:UInt8),(32:UInt8)]++(wr x)) (by omega) (ex.trans ex3) (by rw [← hw]; simp);rw [← zq (i:=i) (by omega)] at nx;exact (ot (zgs (j:=((i:Nat):Int)) (z1c:=((ts.length:Nat):Int)) (s1c:=(pv y)) (wa:=(wr x))) ⟨trivial,(ziB (by (try simp only [List.length_append,List.length_cons,List.length_nil]); omega)),(ziB (by (try simp only [List.length_append,List.length_cons,List.length_nil]); omega)),(rdx.load rfl _ _),(tO3.ld 2 rfl),(yT nO3),(by (try simp only [List.length_append,List.length_cons,List.length_nil]); omega),nx⟩)
     ·
      obtain ⟨i1,i2,i3,lo22,hi22,eA22,rd22,_⟩:=nO2.at sSl sEn hw2;obtain ⟨i4,i5,i6,lo23,hi23,eA23,rd23,_⟩:=sO2.at pSl pEn hy';have hi0:i=0:=by simp only [decide_eq_true_eq,decide_eq_false_iff_not] at *; omega
      rw [if_pos hi0] at hw;have hl:=congrArg List.length hw;simp only [List.length_append,List.length_cons,List.length_nil] at hl;refine (ot (zkn (sn:=sn) (sa:=sa) (j:=((i:Nat):Int))) ⟨((ts.length:Nat):Int),(tO2.ld 3 rfl),(by rw [← i5']; exact sO2.len pSl _ _),fkt (decide_eq_true (by omega)) (fkf hc21 ⟨_,_,_,n,_,_,_,(pv y),(tO2.ld 2 rfl),eA22,(rd22.load rfl _ _),(by (try simp only [List.length_append,List.length_cons,List.length_nil]); omega),(by (try simp only [List.length_append,List.length_cons,List.length_nil]); omega),(tO2.ld 3 rfl),eA23,(rd23.load rfl _ _),?_⟩)⟩)
      refine ke m x y _ O2 N2 (by omega) (okx x hxm) ((i8' i x y hx hy').ext ex hN) (Nat.le_trans hN ex.1) fun O3 N3 td ex3=>?_;have rdx:=rd22.same (O':=O3) (ex3.2 _ (by omega));have tO3:=i2'.same ((ex.trans ex3).2 id (by omega));have nO3:=i3'.keep (O':=O3) (fun j _ hj=>(ex.trans ex3).2 j (by omega)) (Nat.le_refl 0) (Nat.le_refl hi);have nx:=ih (i+1) O3 N3 (w++n++[(58:UInt8),(32:UInt8)]++(wr x)) (by omega) (ex.trans ex3) (by rw [← hw]; simp);rw [← zq (i:=i) (by omega)] at nx;exact (ot (zgN (j:=((i:Nat):Int)) (z1c:=((ts.length:Nat):Int)) (s1c:=(pv y)) (wa:=(wr x))) ⟨trivial,(ziB (by (try simp only [List.length_append,List.length_cons,List.length_nil]); omega)),(ziB (by (try simp only [List.length_append,List.length_cons,List.length_nil]); omega)),(rdx.load rfl _ _),(tO3.ld 2 rfl),(yT nO3),(by (try simp only [List.length_append,List.length_cons,List.length_nil]); omega),nx⟩)
   have:=loop ts.length 0 O2 (N+1) [] (Nat.zero_add _) ex0 hFA;exact (ot (zdQ (k:=7) (nm:=[])) ⟨_,_,e1,s2,tO.ld 0 rfl,fkf rfl (fkt rfl this)⟩)
  have b7:(k==(7:Int))=false:=beq_eq_false_iff_ne.2 k7
  by_cases k8:k=8
  ·subst k8;have okr:okT r=true:=by
    rcases okr' with h | h
    ·rw [(hf.2.1).1 rfl] at h; cases h
    ·exact h
   rw [show txt 8 nm ns ts (wrL ts) (wr r)=[102,110,40]++zD [44,32] 0 (wrL ts)++[41,32,45,62,32]++wr r from rfl] at hK hlen
   generalize hFA:zD [44,32] 0 (wrL ts)=FA at hK hlen;have hfin:=hK
   (try simp only [List.length_append,List.length_cons,List.length_nil] at hlen)
   have loop:∀ (k' i:Nat) (O2:T AObj) (N2:Nat) (w:List UInt8),i+k'=ts.length→Ext O N O2 N2→w++zD [44,32] i (wrL (ts.drop i))=FA→Goal P keep f0 Q (Wwb id w ((i:Nat):Int) rest O2 N2 G):=by
    intro k'
    induction k' with
    | zero =>
     intro i O2 N2 w hk ex hw;have exle:=ex.1;have tO2:=i2'.same (ex.2 id (by omega));have sO2:=i4'.keep (O':=O2) (fun j _ hj=>ex.2 j (by omega)) (Nat.le_refl 0) (Nat.le_refl hi);rw [List.drop_of_length_le (l:=ts) (by omega)] at hw;have hw':w=FA:=by rw [← hw]; simp [wrL,zD]
     subst hw';refine (ot (zkC (sa:=sa) (rp:=(pv q)) (j:=((i:Nat):Int))) ⟨((ts.length:Nat):Int),(tO2.ld 3 rfl),(by rw [← i5']; exact sO2.len pSl _ _),fkf (decide_eq_false (by omega)) ⟨(by (try simp only [List.length_append,List.length_cons,List.length_nil]); omega),(by (try simp only [List.length_append,List.length_cons,List.length_nil]); omega),(tO2.ld 4 rfl),?_⟩⟩)
     refine ke m r q _ O2 N2 (by omega) okr (i9'.ext ex hN) (Nat.le_trans hN ex.1) fun O3 N3 td ex3=>?_;exact (ot (zjx (rp:=(pv q)) (wa:=(wr r))) ⟨(by (try simp only [List.length_append,List.length_cons,List.length_nil]); omega),hfin O3 N3 _ (ex.trans ex3)⟩)
    | succ k' ih =>
     intro i O2 N2 w hk ex hw;have exle:=ex.1;have tO2:=i2'.same (ex.2 id (by omega));have sO2:=i4'.keep (O':=O2) (fun j _ hj=>ex.2 j (by omega)) (Nat.le_refl 0) (Nat.le_refl hi);have nO2:=i3'.keep (O':=O2) (fun j _ hj=>ex.2 j (by omega)) (Nat.le_refl 0) (Nat.le_refl hi);obtain ⟨x,hx,hxm⟩:=nth (l:=ts) (j:=i) (by omega);obtain ⟨y,hy',_⟩:=nth (l:=ps) (j:=i) (by omega);have hcm:=xf hxm;rw [zr hx] at hw;simp only [wrL,zD] at hw;rcases Bool.eq_false_or_eq_true (decide (((i:Nat):Int) > (0:Int))) with hc21 | hc21
     ·
      obtain ⟨i1,i2,i3,lo22,hi22,eA22,rd22,_⟩:=sO2.at pSl pEn hy';have hi0:i≠0:=by simp only [decide_eq_true_eq,decide_eq_false_iff_not] at *; omega
      rw [if_neg hi0] at hw;have hl:=congrArg List.length hw;simp only [List.length_append,List.length_cons,List.length_nil] at hl;refine (ot (zkC (sa:=sa) (rp:=.nilp) (j:=((i:Nat):Int))) ⟨((ts.length:Nat):Int),(tO2.ld 3 rfl),(by rw [← i5']; exact sO2.len pSl _ _),fkt (decide_eq_true (by omega)) (fkt hc21 ⟨_,_,_,(pv y),(by (try simp only [List.length_append,List.length_cons,List.length_nil]); omega),(tO2.ld 3 rfl),eA22,(rd22.load rfl _ _),?_⟩)⟩)
      refine ke m x y _ O2 N2 (by omega) (okx x hxm) ((i8' i x y hx hy').ext ex hN) (Nat.le_trans hN ex.1) fun O3 N3 td ex3=>?_;have tO3:=i2'.same ((ex.trans ex3).2 id (by omega));have nO3:=i3'.keep (O':=O3) (fun j _ hj=>(ex.trans ex3).2 j (by omega)) (Nat.le_refl 0) (Nat.le_refl hi);have nx:=ih (i+1) O3 N3 (w++[(44:UInt8),(32:UInt8)]++(wr x)) (by omega) (ex.trans ex3) (by rw [← hw]; simp);rw [← zq (i:=i) (by omega)] at nx;exact (ot (zgB (j:=((i:Nat):Int)) (s1c:=(pv y)) (wa:=(wr x))) ⟨(by (try simp only [List.length_append,List.length_cons,List.length_nil]); omega),nx⟩)
     ·
      obtain ⟨i1,i2,i3,lo22,hi22,eA22,rd22,_⟩:=sO2.at pSl pEn hy';have hi0:i=0:=by simp only [decide_eq_true_eq,decide_eq_false_iff_not] at *; omega
      rw [if_pos hi0] at hw;have hl:=congrArg List.length hw;simp only [List.length_append,List.length_cons,List.length_nil] at hl;refine (ot (zkC (sa:=sa) (rp:=.nilp) (j:=((i:Nat):Int))) ⟨((ts.length:Nat):Int),(tO2.ld 3 rfl),(by rw [← i5']; exact sO2.len pSl _ _),fkt (decide_eq_true (by omega)) (fkf hc21 ⟨_,_,_,(pv y),(tO2.ld 3 rfl),eA22,(rd22.load rfl _ _),?_⟩)⟩);refine ke m x y _ O2 N2 (by omega) (okx x hxm) ((i8' i x y hx hy').ext ex hN) (Nat.le_trans hN ex.1) fun O3 N3 td ex3=>?_;have tO3:=i2'.same ((ex.trans ex3).2 id (by omega));have nO3:=i3'.keep (O':=O3) (fun j _ hj=>(ex.trans ex3).2 j (by omega)) (Nat.le_refl 0) (Nat.le_refl hi);have nx:=ih (i+1) O3 N3 (w++(wr x)) (by omega) (ex.trans ex3) (by rw [← hw]; simp);rw [← zq (i:=i) (by omega)] at nx;exact (ot (zhd (j:=((i:Nat):Int)) (s1c:=(pv y)) (wa:=(wr x))) ⟨(by (try simp only [List.length_append,List.length_cons,List.length_nil]); omega),nx⟩)
   have:=loop ts.length 0 O2 (N+1) [] (Nat.zero_add _) ex0 hFA;exact (ot (zdQ (k:=8) (nm:=[])) ⟨_,_,e1,s2,tO.ld 0 rfl,fkf rfl (fkf rfl (fkt rfl this))⟩)
  have b8:(k==(8:Int))=false:=beq_eq_false_iff_ne.2 k8
  by_cases k9:k=9
  ·subst k9;rw [show txt 9 nm ns ts (wrL ts) (wr r)=zD [32,124,32] 0 (zch ts (wrL ts)) from rfl] at hK hlen
   generalize hFA:zD [32,124,32] 0 (zch ts (wrL ts))=FA at hK hlen;have hfin:=hK
   (try simp only [List.length_append,List.length_cons,List.length_nil] at hlen)
   have loop:∀ (k' i:Nat) (O2:T AObj) (N2:Nat) (w:List UInt8),i+k'=ts.length→Ext O N O2 N2→w++zD [32,124,32] i (zch (ts.drop i) (wrL (ts.drop i)))=FA→Goal P keep f0 Q (Wwc id w ((i:Nat):Int) rest O2 N2 G):=by
    intro k'
    induction k' with
    | zero =>
     intro i O2 N2 w hk ex hw;have exle:=ex.1;have tO2:=i2'.same (ex.2 id (by omega));have sO2:=i4'.keep (O':=O2) (fun j _ hj=>ex.2 j (by omega)) (Nat.le_refl 0) (Nat.le_refl hi);rw [List.drop_of_length_le (l:=ts) (by omega)] at hw;have hw':w=FA:=by rw [← hw]; simp [wrL,zch,zD]
     subst hw';exact (ot (zey (q:=0) (k2:=0) (sa:=sa) (j:=((i:Nat):Int))) ⟨((ts.length:Nat):Int),(tO2.ld 3 rfl),(by rw [← i5']; exact sO2.len pSl _ _),fkf (decide_eq_false (by omega)) (hfin O2 N2 _ ex)⟩)
    | succ k' ih =>
     intro i O2 N2 w hk ex hw;have exle:=ex.1;have tO2:=i2'.same (ex.2 id (by omega));have sO2:=i4'.keep (O':=O2) (fun j _ hj=>ex.2 j (by omega)) (Nat.le_refl 0) (Nat.le_refl hi);have nO2:=i3'.keep (O':=O2) (fun j _ hj=>ex.2 j (by omega)) (Nat.le_refl 0) (Nat.le_refl hi);obtain ⟨x,hx,hxm⟩:=nth (l:=ts) (j:=i) (by omega);obtain ⟨y,hy',_⟩:=nth (l:=ps) (j:=i) (by omega);have hcm:=xf hxm;have okx':=okx x hxm;obtain ⟨k2,nm2,ns2,ts2,r2,rfl⟩:∃ k2 nm2 ns2 ts2 r2,x=Ty.mk k2 nm2 ns2 ts2 r2:=by
      cases x with
      | no=>rw [xX] at okx'; cases okx'
      | mk a b c d e=>exact ⟨a,b,c,d,e,rfl⟩
     obtain ⟨q2,_,_,_,_,hyq,qlt,xO,_⟩:=(i8' i _ y hx hy').inv;subst hyq;have xO2:=xO.same (ex.2 q2 (by omega));rw [zr hx] at hw;simp only [wrL,zch,zD] at hw;rcases Bool.eq_false_or_eq_true (decide (((i:Nat):Int) > (0:Int))) with hc21 | hc21
     ·
      obtain ⟨i1,i2,i3,lo22,hi22,eA22,rd22,_⟩:=sO2.at pSl pEn hy';rcases Bool.eq_false_or_eq_true (k2==(8:Int)) with hc23 | hc23
      ·
       obtain ⟨i4,i5,i6,lo24,hi24,eA24,rd24,_⟩:=sO2.at pSl pEn hy';have hi0:i≠0:=by simp only [decide_eq_true_eq,decide_eq_false_iff_not] at *; omega
       rw [if_neg hi0] at hw;rw [show kd (Ty.mk k2 nm2 ns2 ts2 r2)=k2 from rfl,if_pos (eq_of_beq hc23)] at hw
       have hl:=congrArg List.length hw;simp only [List.length_append,List.length_cons,List.length_nil] at hl;refine (ot (zey (q:=q2) (k2:=k2) (sa:=sa) (j:=((i:Nat):Int))) ⟨((ts.length:Nat):Int),(tO2.ld 3 rfl),(by rw [← i5']; exact sO2.len pSl _ _),fkt (decide_eq_true (by omega)) (fkt hc21 ⟨_,_,_,(by (try simp only [List.length_append,List.length_cons,List.length_nil]); omega),(tO2.ld 3 rfl),eA22,(rd22.load rfl _ _),(xO2.ld 0 rfl),fkt hc23 ⟨_,_,_,(.ptr q2 0 0),(by (try simp only [List.length_append,List.length_cons,List.length_nil]); omega),(tO2.ld 3 rfl),eA24,(rd24.load rfl _ _),?_⟩⟩)⟩)
       refine ke m (.mk k2 nm2 ns2 ts2 r2) (some q2) _ O2 N2 (by omega) (okx _ hxm) ((i8' i _ _ hx hy').ext ex hN) (Nat.le_trans hN ex.1) fun O3 N3 td ex3=>?_;have tO3:=i2'.same ((ex.trans ex3).2 id (by omega));have nO3:=i3'.keep (O':=O3) (fun j _ hj=>(ex.trans ex3).2 j (by omega)) (Nat.le_refl 0) (Nat.le_refl hi);have nx:=ih (i+1) O3 N3 (w++[(32:UInt8),(124:UInt8),(32:UInt8)]++[(40:UInt8)]++(wr (.mk k2 nm2 ns2 ts2 r2))++([(41:UInt8)]:List UInt8)) (by omega) (ex.trans ex3) (by rw [← hw]; simp);rw [← zq (i:=i) (by omega)] at nx;exact (ot (zf7 (j:=((i:Nat):Int)) (s1c:=(.ptr q2 0 0)) (wa:=(wr (.mk k2 nm2 ns2 ts2 r2)))) ⟨(by (try simp only [List.length_append,List.length_cons,List.length_nil]); omega),(by (try simp only [List.length_append,List.length_cons,List.length_nil]); omega),nx⟩)
      ·
       obtain ⟨i4,i5,i6,lo24,hi24,eA24,rd24,_⟩:=sO2.at pSl pEn hy';have hi0:i≠0:=by simp only [decide_eq_true_eq,decide_eq_false_iff_not] at *; omega
       rw [if_neg hi0] at hw;rw [show kd (Ty.mk k2 nm2 ns2 ts2 r2)=k2 from rfl,if_neg (by simpa using hc23)] at hw
       have hl:=congrArg List.length hw;simp only [List.length_append,List.length_cons,List.length_nil] at hl;refine (ot (zey (q:=q2) (k2:=k2) (sa:=sa) (j:=((i:Nat):Int))) ⟨((ts.length:Nat):Int),(tO2.ld 3 rfl),(by rw [← i5']; exact sO2.len pSl _ _),fkt (decide_eq_true (by omega)) (fkt hc21 ⟨_,_,_,(by (try simp only [List.length_append,List.length_cons,List.length_nil]); omega),(tO2.ld 3 rfl),eA22,(rd22.load rfl _ _),(xO2.ld 0 rfl),fkf hc23 ⟨_,_,_,(.ptr q2 0 0),(tO2.ld 3 rfl),eA24,(rd24.load rfl _ _),?_⟩⟩)⟩)
       refine ke m (.mk k2 nm2 ns2 ts2 r2) (some q2) _ O2 N2 (by omega) (okx _ hxm) ((i8' i _ _ hx hy').ext ex hN) (Nat.le_trans hN ex.1) fun O3 N3 td ex3=>?_;have tO3:=i2'.same ((ex.trans ex3).2 id (by omega));have nO3:=i3'.keep (O':=O3) (fun j _ hj=>(ex.trans ex3).2 j (by omega)) (Nat.le_refl 0) (Nat.le_refl hi);have nx:=ih (i+1) O3 N3 (w++[(32:UInt8),(124:UInt8),(32:UInt8)]++(wr (.mk k2 nm2 ns2 ts2 r2))) (by omega) (ex.trans ex3) (by rw [← hw]; simp);rw [← zq (i:=i) (by omega)] at nx;exact (ot (zfi (j:=((i:Nat):Int)) (s1c:=(.ptr q2 0 0)) (wa:=(wr (.mk k2 nm2 ns2 ts2 r2)))) ⟨(by (try simp only [List.length_append,List.length_cons,List.length_nil]); omega),nx⟩)
     ·
      obtain ⟨i1,i2,i3,lo22,hi22,eA22,rd22,_⟩:=sO2.at pSl pEn hy';rcases Bool.eq_false_or_eq_true (k2==(8:Int)) with hc23 | hc23
      ·
       obtain ⟨i4,i5,i6,lo24,hi24,eA24,rd24,_⟩:=sO2.at pSl pEn hy';have hi0:i=0:=by simp only [decide_eq_true_eq,decide_eq_false_iff_not] at *; omega
       rw [if_pos hi0] at hw;rw [show kd (Ty.mk k2 nm2 ns2 ts2 r2)=k2 from rfl,if_pos (eq_of_beq hc23)] at hw
       have hl:=congrArg List.length hw;simp only [List.length_append,List.length_cons,List.length_nil] at hl;refine (ot (zey (q:=q2) (k2:=k2) (sa:=sa) (j:=((i:Nat):Int))) ⟨((ts.length:Nat):Int),(tO2.ld 3 rfl),(by rw [← i5']; exact sO2.len pSl _ _),fkt (decide_eq_true (by omega)) (fkf hc21 ⟨_,_,_,(tO2.ld 3 rfl),eA22,(rd22.load rfl _ _),(xO2.ld 0 rfl),fkt hc23 ⟨_,_,_,(.ptr q2 0 0),(by (try simp only [List.length_append,List.length_cons,List.length_nil]); omega),(tO2.ld 3 rfl),eA24,(rd24.load rfl _ _),?_⟩⟩)⟩)
       refine ke m (.mk k2 nm2 ns2 ts2 r2) (some q2) _ O2 N2 (by omega) (okx _ hxm) ((i8' i _ _ hx hy').ext ex hN) (Nat.le_trans hN ex.1) fun O3 N3 td ex3=>?_;have tO3:=i2'.same ((ex.trans ex3).2 id (by omega));have nO3:=i3'.keep (O':=O3) (fun j _ hj=>(ex.trans ex3).2 j (by omega)) (Nat.le_refl 0) (Nat.le_refl hi);have nx:=ih (i+1) O3 N3 (w++[(40:UInt8)]++(wr (.mk k2 nm2 ns2 ts2 r2))++([(41:UInt8)]:List UInt8)) (by omega) (ex.trans ex3) (by rw [← hw]; simp);rw [← zq (i:=i) (by omega)] at nx;exact (ot (zft (j:=((i:Nat):Int)) (s1c:=(.ptr q2 0 0)) (wa:=(wr (.mk k2 nm2 ns2 ts2 r2)))) ⟨(by (try simp only [List.length_append,List.length_cons,List.length_nil]); omega),(by (try simp only [List.length_append,List.length_cons,List.length_nil]); omega),nx⟩)
      ·
       obtain ⟨i4,i5,i6,lo24,hi24,eA24,rd24,_⟩:=sO2.at pSl pEn hy';have hi0:i=0:=by simp only [decide_eq_true_eq,decide_eq_false_iff_not] at *; omega
       rw [if_pos hi0] at hw;rw [show kd (Ty.mk k2 nm2 ns2 ts2 r2)=k2 from rfl,if_neg (by simpa using hc23)] at hw
       have hl:=congrArg List.length hw;simp only [List.length_append,List.length_cons,List.length_nil] at hl;refine (ot (zey (q:=q2) (k2:=k2) (sa:=sa) (j:=((i:Nat):Int))) ⟨((ts.length:Nat):Int),(tO2.ld 3 rfl),(by rw [← i5']; exact sO2.len pSl _ _),fkt (decide_eq_true (by omega)) (fkf hc21 ⟨_,_,_,(tO2.ld 3 rfl),eA22,(rd22.load rfl _ _),(xO2.ld 0 rfl),fkf hc23 ⟨_,_,_,(.ptr q2 0 0),(tO2.ld 3 rfl),eA24,(rd24.load rfl _ _),?_⟩⟩)⟩);refine ke m (.mk k2 nm2 ns2 ts2 r2) (some q2) _ O2 N2 (by omega) (okx _ hxm) ((i8' i _ _ hx hy').ext ex hN) (Nat.le_trans hN ex.1) fun O3 N3 td ex3=>?_;have tO3:=i2'.same ((ex.trans ex3).2 id (by omega));have nO3:=i3'.keep (O':=O3) (fun j _ hj=>(ex.trans ex3).2 j (by omega)) (Nat.le_refl 0) (Nat.le_refl hi);have nx:=ih (i+1) O3 N3 (w++(wr (.mk k2 nm2 ns2 ts2 r2))) (by omega) (ex.trans ex3) (by rw [← hw]; simp);rw [← zq (i:=i) (by omega)] at nx;exact (ot (zfD (j:=((i:Nat):Int)) (s1c:=(.ptr q2 0 0)) (wa:=(wr (.mk k2 nm2 ns2 ts2 r2)))) ⟨(by (try simp only [List.length_append,List.length_cons,List.length_nil]); omega),nx⟩)
   have:=loop ts.length 0 O2 (N+1) [] (Nat.zero_add _) ex0 hFA;exact (ot (zdQ (k:=9) (nm:=[])) ⟨_,_,e1,s2,tO.ld 0 rfl,fkf rfl (fkf rfl (fkf rfl (fkt rfl this)))⟩)
  have b9:(k==(9:Int))=false:=beq_eq_false_iff_ne.2 k9;rw [show txt k nm ns ts (wrL ts) (wr r)=plain k by unfold txt; rw [if_neg k6,if_neg k7,if_neg k8,if_neg k9]] at hK;have h15:k=1∨k=2∨k=3∨k=4∨k=5:=by omega
  rcases h15 with rfl | rfl | rfl | rfl | rfl
  ·exact (ot (zdQ (k:=1) (nm:=[])) ⟨_,_,e1,s2,tO.ld 0 rfl,fkf rfl (fkf rfl (fkf rfl (fkf rfl ⟨(plain 1),tO.ld 0 rfl,by decide,b2.ld 0 rfl,hK O2 (N+1) _ ex0⟩)))⟩)
  ·exact (ot (zdQ (k:=2) (nm:=[])) ⟨_,_,e1,s2,tO.ld 0 rfl,fkf rfl (fkf rfl (fkf rfl (fkf rfl ⟨(plain 2),tO.ld 0 rfl,by decide,b2.ld 1 rfl,hK O2 (N+1) _ ex0⟩)))⟩)
  ·exact (ot (zdQ (k:=3) (nm:=[])) ⟨_,_,e1,s2,tO.ld 0 rfl,fkf rfl (fkf rfl (fkf rfl (fkf rfl ⟨(plain 3),tO.ld 0 rfl,by decide,b2.ld 2 rfl,hK O2 (N+1) _ ex0⟩)))⟩)
  ·exact (ot (zdQ (k:=4) (nm:=[])) ⟨_,_,e1,s2,tO.ld 0 rfl,fkf rfl (fkf rfl (fkf rfl (fkf rfl ⟨(plain 4),tO.ld 0 rfl,by decide,b2.ld 3 rfl,hK O2 (N+1) _ ex0⟩)))⟩)
  ·exact (ot (zdQ (k:=5) (nm:=[])) ⟨_,_,e1,s2,tO.ld 0 rfl,fkf rfl (fkf rfl (fkf rfl (fkf rfl ⟨(plain 5),tO.ld 0 rfl,by decide,b2.ld 4 rfl,hK O2 (N+1) _ ex0⟩)))⟩)
end Go.Proofs.Ytcdigdplhlgcaaa.gx
end
section
set_option maxRecDepth 100000
set_option linter.unusedVariables false
set_option linter.unusedSectionVars false
set_option linter.unusedSimpArgs false
namespace Go.Proofs.Ytcdigdplhlgcaaa.gx
open Go Ev tp
variable {O O':T AObj} {N:Nat} {G:T (T AV)}
theorem zaf:∀ w:List UInt8,zU w=w.flatMap bE
 | []=>rfl
 | c::w=>by rw [List.flatMap_cons,← zaf w]; rfl
def BB (O:T AObj) (lo hi:Nat) (xs:List UInt8) (s:AV):Prop :=
 (s=.nils 0 0∧xs=[])∨∃ ri q c l0 ex,s=.slg ri q 0 xs.length 0∧lo≤ri∧ri<hi∧l0≤q∧O.get ri=some (.cells c xs.length 5 l0 q (q+1) 0 false ex)∧At c 0 (xs.flatMap bE)
theorem BB.same {lo hi hi':Nat}{xs:List UInt8}{s:AV}(h:BB O lo hi xs s)(e:s≠.nils 0 0→O'.get (sid s)=O.get (sid s))(h2:hi≤hi'):BB O' lo hi' xs s:=by
 rcases h with h | ⟨ri,q,c,l0,ex,rfl,a,b,d,r,f⟩
 ·exact .inl h
 ·exact .inr ⟨ri,q,c,l0,ex,rfl,a,by omega,d,(e (by simp)).trans r,f⟩
theorem BB.sid_lt {lo hi:Nat}{xs:List UInt8}{s:AV}(h:BB O lo hi xs s)(hn:s≠.nils 0 0):lo≤sid s∧sid s<hi:=by
 rcases h with h | ⟨ri,q,c,l0,ex,rfl,a,b,d,r,f⟩
 ·exact absurd h.1 hn
 ·exact ⟨a,b⟩
theorem BB.keep {lo hi hi':Nat}{xs:List UInt8}{s:AV}(h:BB O lo hi xs s)(e:∀ j,lo≤j→j<hi→O'.get j=O.get j)(h2:hi≤hi'):BB O' lo hi' xs s :=
 h.same (fun hn=>e _ (h.sid_lt hn).1 (h.sid_lt hn).2) h2
theorem BB.cells {lo hi:Nat}{xs:List UInt8}{s:AV}(h:BB O lo hi xs s):s.cells=[s]∧AV.one s=true:=by
 rcases h with ⟨rfl,_⟩ | ⟨ri,q,c,l0,ex,rfl,_⟩ <;> exact ⟨rfl,rfl⟩
theorem BB.lens {lo hi:Nat}{xs:List UInt8}{s:AV}(h:BB O lo hi xs s):xV s=some xs.length:=by
 rcases h with ⟨rfl,rfl⟩ | ⟨ri,q,c,l0,ex,rfl,_⟩ <;> rfl
theorem BB.len {lo hi:Nat}{xs:List UInt8}{s:AV}(h:BB O lo hi xs s)(N:Nat)(G:T (T AV)):zL P ⟨O,N,G⟩ .len (some 22) [s]=some (.int .i64 ((xs.length:Nat):Int)):=by
 show lenE P ⟨O,N,G⟩ 22 s=_;unfold lenE zrd;rw [bSl.und];simp only [h.lens]
theorem zp4 {s:AV}{sl:Nat}{w:List UInt8}(hs:xV s=some sl)(N:Nat)(G:T (T AV)) :
 zi P ⟨O,N,G⟩ .append (some 22) (some 9) [s,.str w]=wk (match w.length with
  | 0=>xL ⟨O,N,G⟩ s
  | n+1=>za3 ⟨O,N,G⟩ 5 1 1 sl (n+1) s (w.flatMap bE)):=by
 obtain ⟨i,h1,h2,h3⟩:=bSl.info;obtain ⟨z,z1,z2,z3⟩:=bSl.zero;show (match qZ P 9 with | none=>none | some z=>match zoe [s,AV.str w] with | none=>none | some (s,x)=>wk (qS P ⟨O,N,G⟩ 22 z s x))=_
 rw [show qZ P 9=some false by kernel_rfl];show wk (qS P ⟨O,N,G⟩ 22 false s (.str w))=_;congr 1;unfold qS;rw [bSl.und];show vz P ⟨O,N,G⟩ 5 false s (.str w)=_;unfold vz;rw [h1,z1];have ha:qU ⟨O,N,G⟩ 1 z false (.str w)=some (w.length,w.flatMap bE):=by
  rw [← zaf];unfold qU;show (match yt ⟨O,N,G⟩ 1 w.length (.str w) with | none=>none | some new=>some (w.length,new))=_
  rw [show yt ⟨O,N,G⟩ 1 w.length (.str w)=some (zU w) from by
   unfold yt;simp only [List.take_of_length_le (Nat.le_refl _)]]
 simp only [hs,h2,h3,ha];rw [if_pos ⟨bSl.pos,z2,z3,bEn.ones w,bEn.flat w,fun h=>by cases h⟩];cases w.length <;> rfl
theorem BB.app {lo:Nat}{xs w:List UInt8}{s:AV}(h:BB O lo N xs s)(hlo:lo≤N)(hn:xs.length+w.length<1000000000)(G:T (T AV)) :
 ∃ O' N' s',zi P ⟨O,N,G⟩ .append (some 22) (some 9) [s,.str w]=some (.val s' ⟨O',N',G⟩)∧BB O' lo N' (xs++w) s'∧N≤N'∧(∀ j,j<N→(s≠.nils 0 0→j≠sid s)→O'.get j=O.get j):=by
 have base:=zp4 (w:=w) h.lens N G (O:=O);have hroom:zdD (xs.length+w.length) 1=true:=by
  unfold zdD;rw [Bool.and_eq_true];refine ⟨Nat.ble_eq_true_of_le ?_,Nat.ble_eq_true_of_le (show xs.length+w.length+1≤2 ^ 60 by omega)⟩
  calc (2*(xs.length+w.length)+1000)*1≤2000001000*4096:=Nat.mul_le_mul (by omega) (by decide)
   _≤2 ^ 48:=by decide
 cases hy:w with
 | nil =>
  subst hy;refine ⟨O,N,s,?_,by rw [List.append_nil]; exact h,Nat.le_refl _,fun _ _ _=>rfl⟩;rw [base];show wk (xL ⟨O,N,G⟩ s)=_;rcases h with ⟨rfl,_⟩ | ⟨ri,q,c,l0,ex,rfl,_⟩
  ·rfl
  ·rfl
 | cons y r =>
  have hlen:w.length=r.length+1:=by rw [hy]; rfl
  rw [← hy];rw [hlen] at base;simp only at base;rw [show r.length+1=w.length from hlen.symm] at base
  have hfl:∀ l:List UInt8,(l.flatMap bE).length=l.length:=fun l=>by rw [bEn.flat,Nat.mul_one]
  rcases h with ⟨rfl,rfl⟩ | ⟨ri,q,c,l0,ex,rfl,g1,g2,g3,g4,g5⟩
  ·refine ⟨O.set (some (.cells (zd .leaf 0 (w.flatMap bE)) (w.flatMap bE).length 5 0 0 1 0 false .leaf)) N,N+1,.slg N 0 0 w.length 0,?_,.inr ⟨N,0,zd .leaf 0 (w.flatMap bE),0,.leaf,rfl,hlo,Nat.lt_succ_self _,Nat.le_refl _,?_,?_⟩,Nat.le_succ _,fun j hj _=>by rw [T.get_set,if_neg (by omega)]⟩
   ·rw [base];show wk (xy ⟨O,N,G⟩ 5 1 1 0 (0+w.length) (.nils 0 0) (w.flatMap bE))=_;unfold xy;rw [if_pos (show zdD (0+w.length) 1=true from hroom)]
    show wk (if ([]:List AV).all AV.one=true∧([]:List AV).length=0*1 then _ else none)=_
    rw [if_pos ⟨rfl,rfl⟩,Nat.zero_add];rfl
   ·rw [T.get_set,if_pos rfl,hfl];rfl
   ·exact At.stored _ _ _
  ·have hext:zG ex xs.length q q=some xs.length:=by unfold zG; rw [if_pos rfl]
   refine ⟨O.set (some (.cells (zd c xs.length (w.flatMap bE)) (xs.length+(w.flatMap bE).length) 5 l0 (q+1) (q+1+1) 0 false (ex.set (some xs.length) q))) ri,N,.slg ri (q+1) 0 (xs.length+w.length) 0,?_,.inr ⟨ri,q+1,zd c xs.length (w.flatMap bE),l0,ex.set (some xs.length) q,by rw [List.length_append],g1,g2,by omega,?_,?_⟩,Nat.le_refl _,fun j hj hne=>by rw [T.get_set,if_neg (show j≠ri from hne (by simp))]⟩
   ·rw [base];show wk (match xl ⟨O,N,G⟩ 5 1 ri q 0 0 xs.length (xs.length+w.length) (w.flatMap bE) with | some r=>some r | none=>x4 ⟨O,N,G⟩ 5 1 1 ri q 0 0 xs.length (xs.length+w.length) (w.flatMap bE))=_
    have k1:xl ⟨O,N,G⟩ 5 1 ri q 0 0 xs.length (xs.length+w.length) (w.flatMap bE)=none:=by
     unfold xl;show (match O.get ri with | some (.cells _ m el' lo hi _ _ _ ex)=>_ | _=>_)=_
     rw [g4];simp only [hext];rw [if_neg (by omega)]
    rw [k1];simp only;unfold x4;show wk (match O.get ri with | some (.cells c m el' lo hi nv fz sg ex)=>_ | _=>_)=_
    rw [g4];simp only [hext];rw [if_pos ⟨g3,Nat.le_refl _,by omega,by omega,by simp,trivial,Nat.lt_succ_self _,hroom⟩,if_pos ⟨by omega,by simp⟩,T.seq_eq,T.seq_eq];simp only [Nat.mul_one,Nat.zero_add];rfl
   ·rw [T.get_set,if_pos rfl,hfl,List.length_append]
   ·rw [List.flatMap_append];have:=At.app (c:=zd c xs.length (w.flatMap bE)) (off:=0) (l:=xs.flatMap bE) (r:=w.flatMap bE) (g5.store (.inl (by rw [hfl]; omega))) (by rw [hfl,Nat.zero_add]; exact At.stored _ _ _);exact this
theorem zfP:∀ (w acc:List UInt8),zmP zcq (w.flatMap bE) acc=some (acc.reverse++w)
 | [],acc=>by rw [List.append_nil]; rfl
 | c::w,acc=>by
  have hb:zcq (AV.int .u8 ((c.toNat:Nat):Int))=some c:=by
   show some (UInt8.ofNat (Int.toNat ((c.toNat:Nat):Int)))=some c;rw [Int.toNat_natCast,UInt8.ofNat_toNat]
  have ih:=zfP w (c::acc);rw [List.reverse_cons,List.append_assoc] at ih;show zmP zcq (AV.int .u8 ((c.toNat:Nat):Int)::w.flatMap bE) acc=_;unfold zmP;simp only [hb];exact ih
theorem zjW (w:List UInt8):vN (w.flatMap bE)=some w:=zfP w []
theorem BB.str {lo hi:Nat}{xs:List UInt8}{s:AV}(h:BB O lo hi xs s)(hne:xs≠[]∨s=.nils 0 0)(hn:xs.length<1000000000)(N:Nat)(G:T (T AV)) :
 ∃ s1 O1,zL P ⟨O,N,G⟩ .unsafeSliceData (some 22) [s]=some s1∧okD 300 s1=true∧zi P ⟨O,N,G⟩ .unsafeString (some 117) (some 3) [s1,.int .i64 ((xs.length:Nat):Int)]=some (.val (.str xs) ⟨O1,N,G⟩)∧(∀ j,(s≠.nils 0 0→j≠sid s)→O1.get j=O.get j):=by
 rcases h with ⟨rfl,rfl⟩ | ⟨ri,q,c,l0,ex,rfl,g1,g2,g3,g4,g5⟩
 ·exact ⟨.nilp,O,rfl,rfl,by kernel_rfl,fun _ _=>rfl⟩
 ·obtain ⟨x,r,rfl⟩:∃ x r,xs=x::r:=by
   cases xs with
   | nil=>simp at hne
   | cons x r=>exact ⟨x,r,rfl⟩
  refine ⟨.ptr ri q 0,O.set (some (.cells c (x::r).length 5 l0 q (q+1) (max 0 (x::r).length) false ex)) ri,rfl,rfl,?_,fun j hj=>by rw [T.get_set,if_neg (show j≠ri from hj (by simp))]⟩
  show zbU P ⟨O,N,G⟩ 117 [.ptr ri q 0,.int .i64 (((x::r).length:Nat):Int)]=_;unfold zbU;rw [show vU P 117=some 5 by kernel_rfl];simp only [show jK P 5=true by kernel_rfl];show wk (qt P ⟨O,N,G⟩ 5 (.ptr ri q 0) (.int .i64 (((x::r).length:Nat):Int)))=_;unfold qt;simp only;rw [if_neg (by simp only [List.length_cons]; omega),if_pos ⟨by simp only [List.length_cons]; omega,by simp only [List.length_cons] at hn ⊢; omega⟩];unfold zdL;show wk (match O.get ri with | some (.cells c m el lo hi nv fz sg ex)=>_ | _=>_)=_
  rw [g4];have hext:zG ex (x::r).length q q=some (x::r).length:=by unfold zG; rw [if_pos rfl]
  simp only [hext,Int.toNat_natCast];rw [if_pos ⟨g3,Nat.le_refl _,Nat.le_refl _,trivial,trivial,trivial,by kernel_rfl⟩];have hl:zV c 0 (x::r).length=some ((x::r).flatMap bE):=by
   have:=g5.load;rw [bEn.flat,Nat.mul_one] at this;exact this
  rw [hl];simp only [zjW];rfl
end Go.Proofs.Ytcdigdplhlgcaaa.gx
end
section
set_option maxRecDepth 100000
set_option linter.unusedVariables false
set_option linter.unusedSectionVars false
set_option linter.unusedSimpArgs false
namespace Go.Proofs.Ytcdigdplhlgcaaa.gx
open Go Ev tp
section
variable (w nm:List UInt8) (p:Nat) (k:Int) (wb:List UInt8) (q:Nat) (sa:AV) (n j:Int) (s1:AV) (l1:List UInt8) (s1c rp:AV) (c:Int) (tb:Nat) (wa:List UInt8) (bb ob:Nat) (rest:List AFrame) (O:T AObj) (N:Nat) (G:T (T AV)) (pp:AV) (Nc:Nat)
noncomputable def Fwsx:AFrame:=frm 94 19 (tW (tY (.str w)) (.ptr bb 0 0) (tX tZ (tY (.ptr bb 0 0)))) [opi 94 [1,0] 1,cdi 94 [1,1]]
noncomputable def zth:AFrame:=frm 93 9 (tX (tX (tX (tY (.str w)) tZ) tZ) (tY (.ptr bb 0 0))) [opi 93 [1,0] 1]
noncomputable def zsE:AFrame:=frm 95 114 (tX (tY (.ptr bb 0 0)) (tX tZ (tX (tX tZ (tY (.str nm))) tZ))) [opi 95 [1,0,1,0] 4,.inBlock 0]
noncomputable def zpe:AFrame:=frm 95 114 (tW (tW (tY (.ptr tb 0 0)) (.ptr bb 0 0) tZ) (.ptr p 0 0) (tY (.ptr ob 0 0))) [.ops (rg P 95 [1,0,1,1,1,0,0]).toList (rg P 95 [1,0,1,1,1,0,0]).toList,cdi 95 [1,0,1,1,1,0,1],.inBlock 0]
noncomputable def zkj:AFrame:=frm 95 114 (tW (tW (tY (.ptr tb 0 0)) (.ptr bb 0 0) tZ) (.ptr p 0 0) (tY (.ptr ob 0 0))) [.ops (rg P 95 [1,0,1,1,1,1,1,0,0]).toList (rg P 95 [1,0,1,1,1,1,1,0,0]).toList,cdi 95 [1,0,1,1,1,1,1,0,1],.inBlock 0]
noncomputable def Wta:AM:=⟨frm 95 114 (tX (tW (tW tZ (.ptr tb 0 0) (tX tZ (tX tZ (tX (tY (.int .i64 n)) tZ)))) (.ptr bb 0 0) tZ) (tW (tX tZ (tX tZ (tX tZ (tX (tY (.int .i64 j)) tZ)))) (.ptr ob 0 0) (tX (tX tZ (tX tZ (tX (tY sa) tZ))) tZ))) [cdi 95 [1,0,1,1,1,1,1,1,1,0,1,0,0],ili 95 [1,0,1,1,1,1,1,1,1,0,1,0,0],.inBlock 5,.inBlock 0],rest,⟨O,N,G⟩⟩
noncomputable def zir:AFrame:=frm 95 114 (tX (tY (.ptr bb 0 0)) (tX tZ (tX (tX (tY (.int .i64 k)) tZ) tZ))) [opi 95 [1,0,1,1,1,1,1,1,1,1] 4,.inBlock 0]
noncomputable def Wtb:AM:=⟨frm 95 114 (tW (tW (tW tZ (.ptr tb 0 0) (tX (tX (tY (.int .i64 n)) tZ) tZ)) (.ptr bb 0 0) tZ) (.ptr p 0 0) (tW (tX tZ (tX (tX (tY (.int .i64 j)) tZ) tZ)) (.ptr ob 0 0) (tX (tX (tX (tY sa) tZ) tZ) tZ))) [cdi 95 [1,0,1,1,1,0,1,0,1,0,0],ili 95 [1,0,1,1,1,0,1,0,1,0,0],.inBlock 1,cdi 95 [1,0,1,1,1,0,1,1],.inBlock 0],rest,⟨O,N,G⟩⟩
noncomputable def Wtc:AM:=⟨frm 95 114 (tW (tW (tY (.ptr tb 0 0)) (.ptr bb 0 0) (tX (tX (tX (tX (tY (.int .i64 n)) tZ) tZ) tZ) tZ)) (.ptr p 0 0) (tW (tX (tX (tX (tX (tY sa) tZ) tZ) tZ) tZ) (.ptr ob 0 0) (tX (tX (tX (tX (tY (.int .i64 j)) tZ) tZ) tZ) tZ))) [cdi 95 [1,0,1,1,1,1,1,0,1,0,1,0,0],ili 95 [1,0,1,1,1,1,1,0,1,0,1,0,0],.inBlock 3,cdi 95 [1,0,1,1,1,1,1,0,1,1],.inBlock 0],rest,⟨O,N,G⟩⟩
noncomputable def zca:AFrame:=frm 95 114 (tX (tW (tX tZ (tX (tY (.str wb)) tZ)) (.ptr bb 0 0) tZ) tZ) [opi 95 [1,0,1,1,1,1,1,1,1,1] 5,.inBlock 0]
noncomputable def zoZ:AFrame:=frm 95 114 (tX (tW (tW tZ (.ptr tb 0 0) (tX tZ (tX tZ (tX (tY (.int .i64 n)) tZ)))) (.ptr bb 0 0) (tX (tX (tX (tX tZ (tY (.fn (Fn.func (93:FuncId)) [] [.ptr bb 0 0]))) tZ) tZ) tZ)) (tW (tX tZ (tX tZ (tX tZ (tX (tY (.int .i64 j)) tZ)))) (.ptr ob 0 0) (tX (tW (tX (tX tZ (tY (.int .i64 j))) tZ) (.ptr q 0 0) (tX tZ (tX (tY sa) tZ))) tZ))) [opi 95 [1,0,1,1,1,1,1,1,1,0,1,0,0,1,1,0,0,1,0] 2,cdi 95 [1,0,1,1,1,1,1,1,1,0,1,0,0,1,1,0,0,1,1],.inBlock 6,cdi 95 [1,0,1,1,1,1,1,1,1,0,1,0,0,1,1,1],ili 95 [1,0,1,1,1,1,1,1,1,0,1,0,0],.inBlock 5,.inBlock 0]
noncomputable def zcL:AFrame:=frm 95 114 (tX (tW (tW tZ (.ptr tb 0 0) (tX tZ (tX tZ (tX (tY (.int .i64 n)) tZ)))) (.ptr bb 0 0) (tX (tX tZ (tX (tX tZ (tY (.ptr q 0 0))) tZ)) tZ)) (tW (tX tZ (tX tZ (tX tZ (tX (tY (.int .i64 j)) tZ)))) (.ptr ob 0 0) (tX (tX tZ (tX tZ (tX (tY sa) tZ))) tZ))) [opi 95 [1,0,1,1,1,1,1,1,1,0,1,0,0,1,1,0,0,1,1,1,0] 1,.inBlock 6,cdi 95 [1,0,1,1,1,1,1,1,1,0,1,0,0,1,1,1],ili 95 [1,0,1,1,1,1,1,1,1,0,1,0,0],.inBlock 5,.inBlock 0]
noncomputable def zc8:AFrame:=frm 95 114 (tX (tW (tW (tX (tX tZ (tX tZ (tY (.ptr q 0 0)))) tZ) (.ptr tb 0 0) (tX tZ (tX tZ (tX (tY (.int .i64 n)) tZ)))) (.ptr bb 0 0) tZ) (tW (tX tZ (tX tZ (tX tZ (tX (tY (.int .i64 j)) tZ)))) (.ptr ob 0 0) (tX (tX tZ (tX tZ (tX (tY sa) tZ))) (tX tZ (tX (tX tZ (tY (.fn (Fn.func (95:FuncId)) [] [.ptr bb 0 0,.ptr ob 0 0,.ptr tb 0 0]))) tZ))))) [opi 95 [1,0,1,1,1,1,1,1,1,0,1,0,0,1,1,0,0,1,1,1,1] 2,.inBlock 6,cdi 95 [1,0,1,1,1,1,1,1,1,0,1,0,0,1,1,1],ili 95 [1,0,1,1,1,1,1,1,1,0,1,0,0],.inBlock 5,.inBlock 0]
noncomputable def kV:AFrame:=frm 95 114 (tX (tW (tW tZ (.ptr tb 0 0) (tX tZ (tX tZ (tX (tY (.int .i64 n)) tZ)))) (.ptr bb 0 0) tZ) (tW (tX tZ (tX tZ (tX (tX tZ (tY (.str (([(40:UInt8)]:List UInt8)++wa++([(41:UInt8)]:List UInt8))))) (tX (tY (.int .i64 j)) tZ)))) (.ptr ob 0 0) (tX (tX tZ (tX tZ (tX (tY sa) tZ))) tZ))) [opi 95 [1,0,1,1,1,1,1,1,1,0,1,0,0,1,1,0,0,1,1,1,0] 4,.inBlock 6,cdi 95 [1,0,1,1,1,1,1,1,1,0,1,0,0,1,1,1],ili 95 [1,0,1,1,1,1,1,1,1,0,1,0,0],.inBlock 5,.inBlock 0]
noncomputable def zog:AFrame:=frm 95 114 (tW (tW (tW tZ (.ptr tb 0 0) (tX (tX (tY (.int .i64 n)) tZ) tZ)) (.ptr bb 0 0) (tW (tX tZ (tX (tY (.fn (Fn.func (93:FuncId)) [] [.ptr bb 0 0])) tZ)) (.int .i64 j) tZ)) (.ptr p 0 0) (tW (tX tZ (tX (tX (tY (.int .i64 j)) tZ) tZ)) (.ptr ob 0 0) (tW (tX (tX (tY sa) tZ) (tX (tY (.int .i64 j)) tZ)) s1 tZ))) [opi 95 [1,0,1,1,1,0,1,0,1,0,0,1,1,0,0,1,0] 2,cdi 95 [1,0,1,1,1,0,1,0,1,0,0,1,1,0,0,1,1],.inBlock 2,cdi 95 [1,0,1,1,1,0,1,0,1,0,0,1,1,1],ili 95 [1,0,1,1,1,0,1,0,1,0,0],.inBlock 1,cdi 95 [1,0,1,1,1,0,1,1],.inBlock 0]
noncomputable def zpb:AFrame:=frm 95 114 (tX (tY (.ptr bb 0 0)) tZ) [.ops (rg P 95 [1,0,1,1,1,0,1,1]).toList (rg P 95 [1,0,1,1,1,0,1,1]).toList,.inBlock 0]
noncomputable def zfu:AFrame:=frm 95 114 (tW (tW (tW tZ (.ptr tb 0 0) (tX (tX (tY (.int .i64 n)) (tY (.str (l1++([(58:UInt8),(32:UInt8)]:List UInt8))))) tZ)) (.ptr bb 0 0) tZ) (.ptr p 0 0) (tW (tX tZ (tX (tX (tY (.int .i64 j)) tZ) tZ)) (.ptr ob 0 0) (tW (tX (tX (tY sa) tZ) tZ) s1c tZ))) [opi 95 [1,0,1,1,1,0,1,0,1,0,0,1,1,0,0,1,1,0] 8,cdi 95 [1,0,1,1,1,0,1,0,1,0,0,1,1,0,0,1,1,1],.inBlock 2,cdi 95 [1,0,1,1,1,0,1,0,1,0,0,1,1,1],ili 95 [1,0,1,1,1,0,1,0,1,0,0],.inBlock 1,cdi 95 [1,0,1,1,1,0,1,1],.inBlock 0]
noncomputable def zar:AFrame:=frm 95 114 (tW (tW (tW tZ (.ptr tb 0 0) (tX (tX (tY (.int .i64 n)) tZ) tZ)) (.ptr bb 0 0) (tX tZ (tX (tX tZ (tY (.fn (Fn.func (95:FuncId)) [] [.ptr bb 0 0,.ptr ob 0 0,.ptr tb 0 0]))) tZ))) (.ptr p 0 0) (tW (tX tZ (tX (tX (tY (.int .i64 j)) tZ) tZ)) (.ptr ob 0 0) (tX (tX (tX (tY sa) tZ) tZ) (tX (tX tZ (tY s1c)) tZ)))) [opi 95 [1,0,1,1,1,0,1,0,1,0,0,1,1,0,0,1,1,1] 2,.inBlock 2,cdi 95 [1,0,1,1,1,0,1,0,1,0,0,1,1,1],ili 95 [1,0,1,1,1,0,1,0,1,0,0],.inBlock 1,cdi 95 [1,0,1,1,1,0,1,1],.inBlock 0]
noncomputable def zpx:AFrame:=frm 95 114 (tW (tW (tW (tX tZ (tX (tX (tY (.fn (Fn.func (93:FuncId)) [] [.ptr bb 0 0])) tZ) tZ)) (.ptr tb 0 0) tZ) (.ptr bb 0 0) (tX (tX (tX (tX (tY (.int .i64 n)) tZ) tZ) tZ) tZ)) (.ptr p 0 0) (tW (tX (tW (tX (tX (tY sa) tZ) tZ) s1 (tX (tX (tY (.int .i64 j)) tZ) tZ)) tZ) (.ptr ob 0 0) (tX (tX (tX (tX (tY (.int .i64 j)) tZ) tZ) tZ) tZ))) [opi 95 [1,0,1,1,1,1,1,0,1,0,1,0,0,1,1,0,0,1,0] 2,cdi 95 [1,0,1,1,1,1,1,0,1,0,1,0,0,1,1,0,0,1,1],.inBlock 4,cdi 95 [1,0,1,1,1,1,1,0,1,0,1,0,0,1,1,1],ili 95 [1,0,1,1,1,1,1,0,1,0,1,0,0],.inBlock 3,cdi 95 [1,0,1,1,1,1,1,0,1,1],.inBlock 0]
noncomputable def zpm:AFrame:=frm 95 114 (tW (tW (tY (.ptr tb 0 0)) (.ptr bb 0 0) tZ) (.ptr p 0 0) tZ) [.ops (rg P 95 [1,0,1,1,1,1,1,0,1,1,0]).toList (rg P 95 [1,0,1,1,1,1,1,0,1,1,0]).toList,cdi 95 [1,0,1,1,1,1,1,0,1,1,1],.inBlock 0]
noncomputable def zeN:AFrame:=frm 95 114 (tW (tW (tW tZ (.ptr tb 0 0) (tX tZ (tX (tX (tY s1c) tZ) tZ))) (.ptr bb 0 0) (tX (tX (tX (tX (tY (.int .i64 n)) tZ) tZ) tZ) tZ)) (.ptr p 0 0) (tW (tX (tX (tX (tX (tY sa) tZ) tZ) tZ) tZ) (.ptr ob 0 0) (tX (tX (tX (tX (tY (.int .i64 j)) tZ) tZ) (tX (tX (tY (.fn (Fn.func (95:FuncId)) [] [.ptr bb 0 0,.ptr ob 0 0,.ptr tb 0 0])) tZ) tZ)) tZ))) [opi 95 [1,0,1,1,1,1,1,0,1,0,1,0,0,1,1,0,0,1,1] 2,.inBlock 4,cdi 95 [1,0,1,1,1,1,1,0,1,0,1,0,0,1,1,1],ili 95 [1,0,1,1,1,1,1,0,1,0,1,0,0],.inBlock 3,cdi 95 [1,0,1,1,1,1,1,0,1,1],.inBlock 0]
noncomputable def zfV:AFrame:=frm 95 114 (tW (tW (tW (tX (tX tZ (tX (tY (.fn (Fn.func (95:FuncId)) [] [.ptr bb 0 0,.ptr ob 0 0,.ptr tb 0 0])) tZ)) tZ) (.ptr tb 0 0) (tX (tX tZ (tX (tY rp) tZ)) tZ)) (.ptr bb 0 0) (tX (tX (tX tZ (tX (tY (.ptr p 0 0)) tZ)) tZ) tZ)) (.ptr p 0 0) (tX (tX (tX (tX tZ (tX (tY (.ptr p 0 0)) tZ)) tZ) tZ) (tX (tX (tX tZ (tX (tY (.ptr p 0 4)) tZ)) tZ) (tX tZ (tX (tX (tY (.tup [.int .i64 c,.nili])) tZ) tZ))))) [.drw (rg P 95 [1,0,1,1,1,1,1,0,1,1,1]) [5] [4,3,2,1,0],.inBlock 0]
noncomputable def Ftex:AFrame:=frm 47 12 (tX (tX (tY (.ptr N 0 0)) (tX (tY pp) tZ)) (tX (tX (tY (.fn (Fn.func 95) [] [.ptr N 0 0,.ptr (N+1) 0 0,.ptr (N+2) 0 0])) tZ) tZ)) [opi 47 [1,1,1,1,1,0] 2,cdi 47 [1,1,1,1,1,1]]
noncomputable def zmx:AFrame:=frm 47 12 (tX (tX (tY (.ptr Nc 0 0)) tZ) tZ) [.ops (rg P 47 [1,1,1,1,1,1,0]).toList (rg P 47 [1,1,1,1,1,1,0]).toList,cdi 47 [1,1,1,1,1,1,1]]
end
section
variable {R:AV→AHeap→Prop} {keep N bb p tb ob q Nc:Nat} {f0:FuncId} {rest:List AFrame} {O:T AObj} {pp bs2 sa s1c sn rp:AV} {G:T (T AV)} {K:AM→Prop} {w nm wb wa l1c:List UInt8} {td:List AItem} {j c k n k2:Int}
theorem t_tex:(∃ (O1:T AObj) (O2:T AObj) (O3:T AObj) (O4:T AObj) (O5:T AObj),(T.set ((some (.cells (tW (tY (.nils 0 0)) .nilp tZ) 2 98 0 0 1 0 false .leaf))) (O) (N)=O1)∧(T.set ((some (.cells (tY .nilf) 1 103 0 0 1 0 false .leaf))) (O1) (N+1)=O2)∧(zc (⟨O2,N+2,G⟩) (N+1) (0) (0) ([.fn (Fn.func 93) [] [.ptr N 0 0]])=(some ⟨O3,N+2,G⟩))∧(T.set ((some (.cells (tY .nilf) 1 104 0 0 1 0 false .leaf))) (O3) (N+2)=O4)∧(zc (⟨O4,N+3,G⟩) (N+2) (0) (0) ([.fn (Fn.func 95) [] [.ptr N 0 0,.ptr (N+1) 0 0,.ptr (N+2) 0 0]])=(some ⟨O5,N+3,G⟩))∧(zb (⟨O5,N+3,G⟩) (N+2) (0) (0) (1)=(some [.fn (Fn.func 95) [] [.ptr N 0 0,.ptr (N+1) 0 0,.ptr (N+2) 0 0]]))∧K (AM.mk (enF 95 [pp,.ptr N 0 0,.ptr (N+1) 0 0,.ptr (N+2) 0 0]) ((Ftex N pp)::rest) ⟨O5,N+3,G⟩))=OT f0 R keep K (.ex fun O1:T AObj=>(.ex fun O2:T AObj=>(.ex fun O3:T AObj=>(.ex fun O4:T AObj=>(.ex fun O5:T AObj=>(.seq [.run 6,.hop (.nilp) O1,.run 4,.hop (.nilp) O2,.hop (.nilp) O3,.run 3,.hop (.nilp) O4,.run 4,.hop (.nilp) O5,.run 3,.hop (.fn (Fn.func 95) [] [.ptr N 0 0,.ptr (N+1) 0 0,.ptr (N+2) 0 0]) O5,.run 1,.keep [3,8,9],.run 1] .fin)))))) ((AM.mk (enF 47 [pp]) rest ⟨O,N,G⟩)):=by kernel_rfl
theorem t_cpn:(∃ (s1:AV) (O1:T AObj) (s2:AV) (O2:T AObj) (O3:T AObj),(lC O N G bb 0 .nilp)∧(zcp P (⟨O,N,G⟩) (96) (135) (.ptr bb 0 0)=(some s1))∧(zcp P (⟨O,N,G⟩) (135) (96) (s1)=(some s2))∧(s2.cells.length.beq (1)=true∧zc (⟨O,N,G⟩:AHeap) bb (0) (0) s2.cells=some (⟨O3,N,G⟩:AHeap))∧K (AM.mk (RF 114 20 .leaf []) rest ⟨O3,N,G⟩))=OT f0 R keep K (.ex fun s1:AV=>(.ex fun O1:T AObj=>(.ex fun s2:AV=>(.ex fun O2:T AObj=>(.ex fun O3:T AObj=>(.seq [.run 5,.hop (.nilp) O,.run 6,.hopn (s1) O1 (N+1),.run 1,.hopn (s2) O2 (N+1),.run 2,.hopn (.nilp) O3 (N),.run 2,.keep []] .fin)))))) ((AM.mk (enF 114 [.ptr bb 0 0]) rest ⟨O,N,G⟩)):=by kernel_rfl
theorem t_cpc:(∃ (b1:Bool),(lC O N G bb 0 (.ptr bb 0 0))∧(lC O N G bb 0 (.ptr bb 0 0))∧(qq P (⟨O,N,G⟩) (BinOp.neq) (96) (false) (.ptr bb 0 0) (.ptr bb 0 0)=(some (.bool b1)))∧((b1)=true→(K (⟨frm 114 20 (tW (tX (tW (tX (tY (.ptr bb 0 0)) tZ) (.ptr bb 0 0) (tX (tY (.bool true)) tZ)) (tW (tX (tY (.ptr bb 0 0)) tZ) (.ptr bb 0 0) tZ)) (.ptr bb 0 0) (tW (tW (tX (tY (.ptr bb 0 0)) tZ) (.ptr bb 0 0) tZ) (.ptr bb 0 0) (tW (tX (tY (.ptr bb 0 0)) tZ) (.bool false) (tY (.ptr bb 0 0))))) [cdi 114 [1,1,1,0]],rest,⟨O,N,G⟩⟩:AM)))∧((b1)=false→(K (AM.mk (RF 114 20 .leaf []) rest ⟨O,N,G⟩))))=OT f0 R keep K (.ex fun b1:Bool=>(.seq [.run 5,.hop (.ptr bb 0 0) O,.run 8,.hop (.ptr bb 0 0) O,.run 1,.hop (.bool b1) O,.run 1] (.fork 19 (.seq [.run 1] .fin) (.seq [.run 3,.keep []] .fin)))) ((AM.mk (enF 114 [.ptr bb 0 0]) rest ⟨O,N,G⟩)):=by kernel_rfl
theorem t_bst:(∃ (s1:AV) (z1:Int) (l1:List UInt8) (O1:T AObj),(lC O N G bb 1 bs2)∧(zL P (⟨O,N,G⟩) (Builtin.unsafeSliceData) ((some 22)) ([bs2])=(some s1))∧(lC O N G bb 1 bs2)∧(lN O N G 22 bs2 z1)∧(zi P (⟨O,N,G⟩) (Builtin.unsafeString) ((some 117)) ((some 3)) ([s1,.int .i64 z1])=(some (.val (.str l1) ⟨O1,N,G⟩)))∧K (AM.mk (RF 97 14 (tX tZ (tY (.str l1))) [cdi 97 [1,1]]) rest ⟨O1,N,G⟩))=OT f0 R keep K (.ex fun s1:AV=>(.ex fun z1:Int=>(.ex fun l1:List UInt8=>(.ex fun O1:T AObj=>(.seq [.run 9,.hop (bs2) O,.hopn (s1) O (N),.run 3,.hop (bs2) O,.hopn (.int .i64 z1) O (N),.hopn (.str l1) O1 (N),.run 3,.keep [2]] .fin))))) ((AM.mk (enF 97 [.ptr bb 0 0]) rest ⟨O,N,G⟩)):=by kernel_rfl
theorem t_wsx:(K (AM.mk (enF 114 [.ptr bb 0 0]) ((Fwsx w bb)::rest) ⟨O,N,G⟩))=OT f0 R keep K (.seq [.run 8,.keep [0,1,6],.run 1] .fin) ((AM.mk (enF 94 [.ptr bb 0 0,.str w]) rest ⟨O,N,G⟩)):=by kernel_rfl
theorem znk:(∃ (s1:AV) (O1:T AObj) (N1:Nat) (O2:T AObj),(lC O N G bb 1 bs2)∧(zi P (⟨O,N,G⟩) (Builtin.append) ((some 22)) ((some 9)) ([bs2,.str w])=(some (.val s1 ⟨O1,N1,G⟩)))∧(s1.cells.length.beq (1)=true∧zc (⟨O1,N1,G⟩:AHeap) bb (0) (1) s1.cells=some (⟨O2,N1,G⟩:AHeap))∧K (AM.mk (RF 94 19 (tX (tX tZ (tY .nili)) (tX (tY (.int .i64 (↑w.length:Int))) tZ)) [cdi 94 [1,1,1,1]]) rest ⟨O2,N1,G⟩))=OT f0 R keep K (.ex fun s1:AV=>(.ex fun O1:T AObj=>(.ex fun N1:Nat=>(.ex fun O2:T AObj=>(.seq [.run 8,.hop (bs2) O,.run 1,.hopn (s1) O1 (N1),.run 2,.hopn (.nilp) O2 (N1),.run 9,.keep [4,5]] .fin))))) ((AM.mk (RF 114 20 .leaf td) ((Fwsx w bb)::rest) ⟨O,N,G⟩)):=by kernel_rfl
theorem zsQ:(((decide (j > (0:Int)))=true→(K (AM.mk (enF 94 [.ptr bb 0 0,.str w]) ((zth w bb)::rest) ⟨O,N,G⟩)))∧((decide (j > (0:Int)))=false→(K (AM.mk (RF 93 9 .leaf []) rest ⟨O,N,G⟩))))=OT f0 R keep K (.seq [.run 5] (.fork 6 (.seq [.run 3,.keep [2,7],.run 1] .fin) (.seq [.run 3,.keep []] .fin))) ((AM.mk (enF 93 [.int .i64 j,.str w,.ptr bb 0 0]) rest ⟨O,N,G⟩)):=by kernel_rfl
theorem zlr:(K (AM.mk (RF 93 9 .leaf []) rest ⟨O,N,G⟩))=OT f0 R keep K (.seq [.run 3,.keep []] .fin) ((AM.mk (RF 94 19 (tX (tX tZ (tY .nili)) (tX (tY (.int .i64 c)) tZ)) td) ((zth w bb)::rest) ⟨O,N,G⟩)):=by kernel_rfl
theorem zma:((lC O N G p 0 (.int .i64 k))∧(((k==(6:Int)))=true→((lC O N G p 1 (.str nm))∧K (AM.mk (enF 94 [.ptr bb 0 0,.str nm]) ((zsE nm bb)::rest) ⟨O,N,G⟩)))∧(((k==(6:Int)))=false→((((k==(7:Int)))=true→(K (AM.mk (enF 94 [.ptr bb 0 0,.str [UInt8.ofNat (123)]]) ((zpe p tb bb ob)::rest) ⟨O,N,G⟩)))∧(((k==(7:Int)))=false→((((k==(8:Int)))=true→(K (AM.mk (enF 94 [.ptr bb 0 0,.str [UInt8.ofNat (102),UInt8.ofNat (110),UInt8.ofNat (40)]]) ((zkj p tb bb ob)::rest) ⟨O,N,G⟩)))∧(((k==(8:Int)))=false→((((k==(9:Int)))=true→(∃ (z1:Int),(lC O N G p 3 sa)∧(lN O N G 33 sa z1)∧K (Wta sa z1 0 tb bb ob rest O N G)))∧(((k==(9:Int)))=false→((lC O N G p 0 (.int .i64 k))∧K (AM.mk (enF 96 [.int .i64 k]) ((zir k bb)::rest) ⟨O,N,G⟩))))))))))=OT f0 R keep K (.seq [.run 5,.hop (.int .i64 k) O,.run 7] (.fork 21 (.seq [.run 5,.hop (.str nm) O,.keep [1,26],.run 1] .fin) (.seq [.run 6] (.fork 28 (.seq [.run 3,.keep [0,1,2,3],.run 1] .fin) (.seq [.run 6] (.fork 58 (.seq [.run 3,.keep [0,1,2,3],.run 1] .fin) (.seq [.run 6] (.fork 85 (.ex fun z1:Int=>(.seq [.run 6,.hop (sa) O,.hopn (.int .i64 z1) O (N),.run 4,.keep [1,2,3,90,91,92]] .fin)) (.seq [.run 5,.hop (.int .i64 k) O,.keep [1,18],.run 1] .fin))))))))) ((AM.mk (enF 95 [.ptr p 0 0,.ptr bb 0 0,.ptr ob 0 0,.ptr tb 0 0]) rest ⟨O,N,G⟩)):=by kernel_rfl
theorem zlE:(K (AM.mk (RF 95 114 .leaf []) rest ⟨O,N,G⟩))=OT f0 R keep K (.seq [.run 4,.keep []] .fin) ((AM.mk (RF 94 19 (tX (tX tZ (tY .nili)) (tX (tY (.int .i64 c)) tZ)) td) ((zsE nm bb)::rest) ⟨O,N,G⟩)):=by kernel_rfl
theorem zjf:(∃ (z1:Int),(lC O N G p 3 sa)∧(lN O N G 33 sa z1)∧K (Wtb p sa z1 0 tb bb ob rest O N G))=OT f0 R keep K (.ex fun z1:Int=>(.seq [.run 8,.hop (sa) O,.hopn (.int .i64 z1) O (N),.run 4,.keep [0,1,2,3,34,35,36]] .fin)) ((AM.mk (RF 94 19 (tX (tX tZ (tY .nili)) (tX (tY (.int .i64 c)) tZ)) td) ((zpe p tb bb ob)::rest) ⟨O,N,G⟩)):=by kernel_rfl
theorem zgz:(∃ (z1:Int),(lC O N G p 3 sa)∧(lN O N G 33 sa z1)∧K (Wtc p sa z1 0 tb bb ob rest O N G))=OT f0 R keep K (.ex fun z1:Int=>(.seq [.run 8,.hop (sa) O,.hopn (.int .i64 z1) O (N),.run 4,.keep [0,1,2,3,64,65,66]] .fin)) ((AM.mk (RF 94 19 (tX (tX tZ (tY .nili)) (tX (tY (.int .i64 c)) tZ)) td) ((zkj p tb bb ob)::rest) ⟨O,N,G⟩)):=by kernel_rfl
theorem zeD:(K (AM.mk (enF 94 [.ptr bb 0 0,.str wb]) ((zca wb bb)::rest) ⟨O,N,G⟩))=OT f0 R keep K (.seq [.run 1,.keep [1,19],.run 1] .fin) ((AM.mk (RF 96 12 (tX tZ (tY (.str wb))) td) ((zir k bb)::rest) ⟨O,N,G⟩)):=by kernel_rfl
theorem zbp:(K (AM.mk (RF 95 114 .leaf []) rest ⟨O,N,G⟩))=OT f0 R keep K (.seq [.run 4,.keep []] .fin) ((AM.mk (RF 94 19 (tX (tX tZ (tY .nili)) (tX (tY (.int .i64 c)) tZ)) td) ((zca wb bb)::rest) ⟨O,N,G⟩)):=by kernel_rfl
theorem zom:(((decide (j<n))=true→(∃ (i1:Nat) (i2:Nat) (i3:Nat),(iX 33 sa j i1 i2 i3)∧(lR O N G i1 i2 i3 (.ptr q 0 0))∧(zb (⟨O,N,G⟩) (ob) (0) (0) (1)=(some [.fn (Fn.func (93:FuncId)) [] [.ptr bb 0 0]]))∧K (AM.mk (enF 93 [.int .i64 j,.str [UInt8.ofNat (32),UInt8.ofNat (124),UInt8.ofNat (32)],.ptr bb 0 0]) ((zoZ q sa n j tb bb ob)::rest) ⟨O,N,G⟩)))∧((decide (j<n))=false→(K (AM.mk (RF 95 114 .leaf []) rest ⟨O,N,G⟩))))=OT f0 R keep K (.seq [.run 5] (.fork 93 (.ex fun i1:Nat=>(.ex fun i2:Nat=>(.ex fun i3:Nat=>(.seq [.run 7,.hopn (.ptr i1 i2 i3) O (N),.hop (.ptr q 0 0) O,.run 5,.hop (.fn (Fn.func (93:FuncId)) [] [.ptr bb 0 0]) O,.run 1,.keep [1,2,3,10,90,91,92,97,98],.run 1] .fin)))) (.seq [.run 4,.keep []] .fin))) ((Wta sa n j tb bb ob rest O N G)):=by kernel_rfl
theorem zcP:((lC O N G q 0 (.int .i64 k2))∧(((k2==(8:Int)))=true→(K (AM.mk (enF 47 [.ptr q 0 0]) ((zcL q sa n j tb bb ob)::rest) ⟨O,N,G⟩)))∧(((k2==(8:Int)))=false→((zb (⟨O,N,G⟩) (tb) (0) (0) (1)=(some [.fn (Fn.func (95:FuncId)) [] [.ptr bb 0 0,.ptr ob 0 0,.ptr tb 0 0]]))∧K (AM.mk (enF 95 [.ptr q 0 0,.ptr bb 0 0,.ptr ob 0 0,.ptr tb 0 0]) ((zc8 q sa n j tb bb ob)::rest) ⟨O,N,G⟩))))=OT f0 R keep K (.seq [.run 7,.hop (.int .i64 k2) O,.run 2] (.fork 104 (.seq [.run 3,.keep [1,2,3,90,91,92,105],.run 1] .fin) (.seq [.run 2,.hop (.fn (Fn.func (95:FuncId)) [] [.ptr bb 0 0,.ptr ob 0 0,.ptr tb 0 0]) O,.run 1,.keep [1,2,3,90,91,92,110,111],.run 1] .fin))) ((AM.mk (RF 93 9 .leaf td) ((zoZ q sa n j tb bb ob)::rest) ⟨O,N,G⟩)):=by kernel_rfl
theorem zcv:((1+wa.length<1099511627776)∧((([(40:UInt8)]:List UInt8)++wa).length+1<1099511627776)∧K (AM.mk (enF 94 [.ptr bb 0 0,.str (([(40:UInt8)]:List UInt8)++wa++([(41:UInt8)]:List UInt8))]) ((kV sa n j tb wa bb ob)::rest) ⟨O,N,G⟩))=OT f0 R keep K (.seq [.run 1,.op,.op,.keep [1,2,3,90,91,92,108],.run 1] .fin) ((AM.mk (RF 47 12 (tX tZ (tY (.str wa))) td) ((zcL q sa n j tb bb ob)::rest) ⟨O,N,G⟩)):=by kernel_rfl
theorem zcz:(K (Wta sa n (IntKind.i64.wrap (j+(1:Int))) tb bb ob rest O N G))=OT f0 R keep K (.seq [.run 8,.keep [1,2,3,90,91,92]] .fin) ((AM.mk (RF 95 114 .leaf td) ((zc8 q sa n j tb bb ob)::rest) ⟨O,N,G⟩)):=by kernel_rfl
theorem jS:(K (Wta sa n (IntKind.i64.wrap (j+(1:Int))) tb bb ob rest O N G))=OT f0 R keep K (.seq [.run 8,.keep [1,2,3,90,91,92]] .fin) ((AM.mk (RF 94 19 (tX (tX tZ (tY .nili)) (tX (tY (.int .i64 c)) tZ)) td) ((kV sa n j tb wa bb ob)::rest) ⟨O,N,G⟩)):=by kernel_rfl
theorem zpo:(((decide (j<n))=true→(∃ (i1:Nat) (i2:Nat) (i3:Nat) (s1:AV),(iX 33 sa j i1 i2 i3)∧(lR O N G i1 i2 i3 s1)∧(zb (⟨O,N,G⟩) (ob) (0) (0) (1)=(some [.fn (Fn.func (93:FuncId)) [] [.ptr bb 0 0]]))∧K (AM.mk (enF 93 [.int .i64 j,.str [UInt8.ofNat (44),UInt8.ofNat (32)],.ptr bb 0 0]) ((zog p sa n j s1 tb bb ob)::rest) ⟨O,N,G⟩)))∧((decide (j<n))=false→(K (AM.mk (enF 94 [.ptr bb 0 0,.str [UInt8.ofNat (125)]]) ((zpb bb)::rest) ⟨O,N,G⟩))))=OT f0 R keep K (.seq [.run 5] (.fork 37 (.ex fun i1:Nat=>(.ex fun i2:Nat=>(.ex fun i3:Nat=>(.ex fun s1:AV=>(.seq [.run 7,.hopn (.ptr i1 i2 i3) O (N),.hop (s1) O,.run 5,.hop (.fn (Fn.func (93:FuncId)) [] [.ptr bb 0 0]) O,.run 1,.keep [0,1,2,3,5,6,34,35,36,41,42],.run 1] .fin))))) (.seq [.run 3,.keep [1],.run 1] .fin))) ((Wtb p sa n j tb bb ob rest O N G)):=by kernel_rfl
theorem zi7:(∃ (i1:Nat) (i2:Nat) (i3:Nat) (l1:List UInt8),(lC O N G p 2 sn)∧(iX 32 sn j i1 i2 i3)∧(lR O N G i1 i2 i3 (.str l1))∧(l1.length+2<1099511627776)∧K (AM.mk (enF 94 [.ptr bb 0 0,.str (l1++([(58:UInt8),(32:UInt8)]:List UInt8))]) ((zfu p sa n j l1 s1c tb bb ob)::rest) ⟨O,N,G⟩))=OT f0 R keep K (.ex fun i1:Nat=>(.ex fun i2:Nat=>(.ex fun i3:Nat=>(.ex fun l1:List UInt8=>(.seq [.run 7,.hop (sn) O,.run 1,.hopn (.ptr i1 i2 i3) O (N),.hop (.str l1) O,.op,.keep [0,1,2,3,6,34,35,36,51],.run 1] .fin))))) ((AM.mk (RF 93 9 .leaf td) ((zog p sa n j s1c tb bb ob)::rest) ⟨O,N,G⟩)):=by kernel_rfl
theorem zjQ:(K (AM.mk (RF 95 114 .leaf []) rest ⟨O,N,G⟩))=OT f0 R keep K (.seq [.run 4,.keep []] .fin) ((AM.mk (RF 94 19 (tX (tX tZ (tY .nili)) (tX (tY (.int .i64 c)) tZ)) td) ((zpb bb)::rest) ⟨O,N,G⟩)):=by kernel_rfl
theorem zde:((zb (⟨O,N,G⟩) (tb) (0) (0) (1)=(some [.fn (Fn.func (95:FuncId)) [] [.ptr bb 0 0,.ptr ob 0 0,.ptr tb 0 0]]))∧K (AM.mk (enF 95 [s1c,.ptr bb 0 0,.ptr ob 0 0,.ptr tb 0 0]) ((zar p sa n j s1c tb bb ob)::rest) ⟨O,N,G⟩))=OT f0 R keep K (.seq [.run 3,.hop (.fn (Fn.func (95:FuncId)) [] [.ptr bb 0 0,.ptr ob 0 0,.ptr tb 0 0]) O,.run 1,.keep [0,1,2,3,34,35,36,53,54],.run 1] .fin) ((AM.mk (RF 94 19 (tX (tX tZ (tY .nili)) (tX (tY (.int .i64 c)) tZ)) td) ((zfu p sa n j l1c s1c tb bb ob)::rest) ⟨O,N,G⟩)):=by kernel_rfl
theorem zaG:(K (Wtb p sa n (IntKind.i64.wrap (j+(1:Int))) tb bb ob rest O N G))=OT f0 R keep K (.seq [.run 8,.keep [0,1,2,3,34,35,36]] .fin) ((AM.mk (RF 95 114 .leaf td) ((zar p sa n j s1c tb bb ob)::rest) ⟨O,N,G⟩)):=by kernel_rfl
theorem zoO:(((decide (j<n))=true→(∃ (i1:Nat) (i2:Nat) (i3:Nat) (s1:AV),(iX 33 sa j i1 i2 i3)∧(lR O N G i1 i2 i3 s1)∧(zb (⟨O,N,G⟩) (ob) (0) (0) (1)=(some [.fn (Fn.func (93:FuncId)) [] [.ptr bb 0 0]]))∧K (AM.mk (enF 93 [.int .i64 j,.str [UInt8.ofNat (44),UInt8.ofNat (32)],.ptr bb 0 0]) ((zpx p sa n j s1 tb bb ob)::rest) ⟨O,N,G⟩)))∧((decide (j<n))=false→(K (AM.mk (enF 94 [.ptr bb 0 0,.str [UInt8.ofNat (41),UInt8.ofNat (32),UInt8.ofNat (45),UInt8.ofNat (62),UInt8.ofNat (32)]]) ((zpm p tb bb)::rest) ⟨O,N,G⟩))))=OT f0 R keep K (.seq [.run 5] (.fork 67 (.ex fun i1:Nat=>(.ex fun i2:Nat=>(.ex fun i3:Nat=>(.ex fun s1:AV=>(.seq [.run 7,.hopn (.ptr i1 i2 i3) O (N),.hop (s1) O,.run 5,.hop (.fn (Fn.func (93:FuncId)) [] [.ptr bb 0 0]) O,.run 1,.keep [0,1,2,3,8,64,65,66,71,72],.run 1] .fin))))) (.seq [.run 4,.keep [0,1,3],.run 1] .fin))) ((Wtc p sa n j tb bb ob rest O N G)):=by kernel_rfl
theorem zjM:((zb (⟨O,N,G⟩) (tb) (0) (0) (1)=(some [.fn (Fn.func (95:FuncId)) [] [.ptr bb 0 0,.ptr ob 0 0,.ptr tb 0 0]]))∧K (AM.mk (enF 95 [s1c,.ptr bb 0 0,.ptr ob 0 0,.ptr tb 0 0]) ((zeN p sa n j s1c tb bb ob)::rest) ⟨O,N,G⟩))=OT f0 R keep K (.seq [.run 3,.hop (.fn (Fn.func (95:FuncId)) [] [.ptr bb 0 0,.ptr ob 0 0,.ptr tb 0 0]) O,.run 1,.keep [0,1,2,3,64,65,66,74,75],.run 1] .fin) ((AM.mk (RF 93 9 .leaf td) ((zpx p sa n j s1c tb bb ob)::rest) ⟨O,N,G⟩)):=by kernel_rfl
theorem ziO:((zb (⟨O,N,G⟩) (tb) (0) (0) (1)=(some [.fn (Fn.func (95:FuncId)) [] [.ptr bb 0 0,.ptr ob 0 0,.ptr tb 0 0]]))∧(lC O N G p 4 rp)∧K (AM.mk (enF 95 [rp,.ptr bb 0 0,.ptr ob 0 0,.ptr tb 0 0]) ((zfV p rp c tb bb ob)::rest) ⟨O,N,G⟩))=OT f0 R keep K (.seq [.run 3,.hop (.fn (Fn.func (95:FuncId)) [] [.ptr bb 0 0,.ptr ob 0 0,.ptr tb 0 0]) O,.run 3,.hop (rp) O,.run 1] .fin) ((AM.mk (RF 94 19 (tX (tX tZ (tY .nili)) (tX (tY (.int .i64 c)) tZ)) td) ((zpm p tb bb)::rest) ⟨O,N,G⟩)):=by kernel_rfl
theorem zdi:(K (Wtc p sa n (IntKind.i64.wrap (j+(1:Int))) tb bb ob rest O N G))=OT f0 R keep K (.seq [.run 8,.keep [0,1,2,3,64,65,66]] .fin) ((AM.mk (RF 95 114 .leaf td) ((zeN p sa n j s1c tb bb ob)::rest) ⟨O,N,G⟩)):=by kernel_rfl
theorem zdx:(K (AM.mk (RF 95 114 .leaf []) rest ⟨O,N,G⟩))=OT f0 R keep K (.seq [.run 4,.keep []] .fin) ((AM.mk (RF 95 114 .leaf td) ((zfV p rp c tb bb ob)::rest) ⟨O,N,G⟩)):=by kernel_rfl
theorem znG:(K (AM.mk (enF 97 [.ptr Nc 0 0]) ((zmx Nc)::rest) ⟨O,N,G⟩))=OT f0 R keep K (.seq [.run 4,.keep [3],.run 1] .fin) ((AM.mk (RF 95 114 .leaf td) ((Ftex Nc pp)::rest) ⟨O,N,G⟩)):=by kernel_rfl
theorem zgK:(K (AM.mk (RF 47 12 (tX tZ (tY (.str wa))) [cdi 47 [1,1,1,1,1,1,1]]) rest ⟨O,N,G⟩))=OT f0 R keep K (.seq [.run 4,.keep [2]] .fin) ((AM.mk (RF 97 14 (tX tZ (tY (.str wa))) td) ((zmx Nc)::rest) ⟨O,N,G⟩)):=by kernel_rfl
end
variable {O O':T AObj} {N:Nat} {G:T (T AV)}
def BS (O:T AObj) (bb lo N:Nat) (xs:List UInt8):Prop:=∃ a s,Obj O bb [a,s]∧((a=.nilp∧∃ c,O.get bb=some (.cells c 2 98 0 0 1 0 false .leaf))∨a=.ptr bb 0 0)∧BB O lo N xs s
theorem BS.keep {bb lo N':Nat}{xs:List UInt8}(h:BS O bb lo N xs)(hb:bb<lo)(e:∀ j,j<N→O'.get j=O.get j)(hl:lo≤N)(h2:N≤N'):BS O' bb lo N' xs:=by
 obtain ⟨a,s,h1,h3,h4⟩:=h;exact ⟨a,s,h1.same (e bb (by omega)),h3.imp (fun h=>⟨h.1,by rw [e bb (by omega)]; exact h.2⟩) id,h4.keep (fun j _ hj=>e j hj) h2⟩
theorem pp_ne {bb:Nat}{l:List AV}(h:Obj O bb l):qq P ⟨O,N,G⟩ BinOp.neq 96 false (.ptr bb 0 0) (.ptr bb 0 0)=some (.bool false):=by
 obtain ⟨c,el,h1,h2⟩:=h;have hv:zgI ⟨O,N,G⟩ bb 0=true:=by
  unfold zgI;show (match O.get bb with | some (.cells _ n _ lo hi _ _ _ ex)=>_ | _=>_)=_
  rw [h1];have:zG (.leaf:T Nat) l.length 0 0=some l.length:=by unfold zG; rw [if_pos rfl]
  simp only [this];rfl
 have hs:vk ⟨O,N,G⟩ bb 0 0 bb 0 0=some true:=by
  unfold vk;rw [if_pos rfl,if_pos ⟨rfl,hv⟩];rfl
 show zgx P ⟨O,N,G⟩ BinOp.neq 96 (.ptr bb 0 0) (.ptr bb 0 0)=_;unfold zgx;rw [show eqA P ⟨O,N,G⟩ 9 96 (.ptr bb 0 0) (.ptr bb 0 0)=vk ⟨O,N,G⟩ bb 0 0 bb 0 0 from by kernel_rfl,hs]
 rfl
theorem cv1 {bb:Nat}{c:T AV}(hc:O.get bb=some (.cells c 2 98 0 0 1 0 false .leaf)):zcp P ⟨O,N,G⟩ 96 135 (.ptr bb 0 0)=some (.ptr bb 0 0):=by
 rw [show zcp P ⟨O,N,G⟩ 96 135 (.ptr bb 0 0)=jF ⟨O,N,G⟩ (some 2) (.ptr bb 0 0) from by kernel_rfl]
 unfold jF;show (match (some 2:Option Nat),O.get bb with | some (_+1),some (.cells _ n _ lo hi _ _ _ ex)=>_ | _,_=>none)=_
 rw [hc];rfl
theorem cv2 {bb:Nat}{c:T AV}(hc:O.get bb=some (.cells c 2 98 0 0 1 0 false .leaf)):zcp P ⟨O,N,G⟩ 135 96 (.ptr bb 0 0)=some (.ptr bb 0 0):=by
 rw [show zcp P ⟨O,N,G⟩ 135 96 (.ptr bb 0 0)=qC P ⟨O,N,G⟩ 98 (some 2) (.ptr bb 0 0) from by kernel_rfl]
 unfold qC;show (match (some 2:Option Nat),O.get bb with | some (_+1),some (.cells _ n el lo hi _ _ _ ex)=>_ | _,_=>none)=_
 rw [hc];have:zmu P 98 (xW P 98) 98 0=true:=by kernel_rfl
 simp only [this];rfl
theorem zqM {bb:Nat}{a s:AV}(h:Obj O bb [a,s])(ha:(a=.nilp∧∃ c,O.get bb=some (.cells c 2 98 0 0 1 0 false .leaf))∨a=.ptr bb 0 0){keep:Nat}{f0:FuncId}{Q:AV→AHeap→Prop}{rest:List AFrame}
 (hK:∀ O' td,Obj O' bb [.ptr bb 0 0,s]→Frm O O' bb→Goal P keep f0 Q (AM.mk (RF 114 20 .leaf td) rest ⟨O',N,G⟩)):Goal P keep f0 Q (AM.mk (enF 114 [.ptr bb 0 0]) rest ⟨O,N,G⟩):=by
 rcases ha with ⟨rfl,c,hc⟩ | rfl
 ·obtain ⟨O3,s3,b3,f3⟩:=h.store 0 [.ptr bb 0 0] N G (Nat.le_of_ble_eq_true rfl) rfl;exact (ot t_cpn ⟨(.ptr bb 0 0),O,(.ptr bb 0 0),O,O3,h.ld 0 rfl,cv1 hc,cv2 hc,st1 rfl s3,hK O3 _ b3 f3⟩)
 ·exact (ot t_cpc ⟨false,h.ld 0 rfl,h.ld 0 rfl,pp_ne h,fkf rfl (hK O _ h (fun _ _=>rfl))⟩)
theorem zd2 {bb lo:Nat}{xs w:List UInt8}(h:BS O bb lo N xs)(hb:bb<lo)(hl:lo≤N)(hn:xs.length+w.length<1000000){keep:Nat}{f0:FuncId}{Q:AV→AHeap→Prop}{rest:List AFrame}
 (hK:∀ O' N' td,N≤N'→BS O' bb lo N' (xs++w)→(∀ j,j<lo→j≠bb→O'.get j=O.get j)→Goal P keep f0 Q (AM.mk (RF 94 19 (tX (tX tZ (tY .nili)) (tX (tY (.int .i64 ((w.length:Nat):Int))) tZ)) td) rest ⟨O',N',G⟩)):Goal P keep f0 Q (AM.mk (enF 94 [.ptr bb 0 0,.str w]) rest ⟨O,N,G⟩):=by
 obtain ⟨a,s,h1,h3,h4⟩:=h;refine (ot t_wsx ?_);refine zqM h1 h3 fun O1 td h5 f5=>?_;have h6:=h4.same (O':=O1) (fun hne=>f5 _ (by have:=(h4.sid_lt hne).1; omega)) (Nat.le_refl N);obtain ⟨O2,N2,s2,e2,g2,n2,f2⟩:=h6.app (w:=w) hl (by omega) G;have h7:Obj O2 bb [.ptr bb 0 0,s]:=h5.same (f2 bb (by omega) (fun hne=>by have:=(h6.sid_lt hne).1; omega));obtain ⟨O3,e3,h8,f3⟩:=h7.store 1 [s2] N2 G (Nat.le_of_ble_eq_true rfl) (by rw [List.all_cons,(g2.cells).2]; rfl);have h9:=g2.same (O':=O3) (fun hne=>f3 _ (by have:=(g2.sid_lt hne).1; omega)) (Nat.le_refl N2);exact (ot (znk (bs2:=s)) ⟨s2,O2,N2,O3,h5.ld 1 rfl,e2,st1 (g2.cells).1 e3,hK O3 N2 _ n2 ⟨_,_,h8,.inr rfl,h9⟩ (fun j hj hj2=>(f3 j hj2).trans ((f2 j (by omega) (fun hne=>by have:=(h6.sid_lt hne).1; omega)).trans (f5 j hj2)))⟩)
theorem zlO {bb lo i:Nat}{xs w:List UInt8}(h:BS O bb lo N xs)(hb:bb<lo)(hl:lo≤N)(hn:xs.length+w.length<1000000){keep:Nat}{f0:FuncId}{Q:AV→AHeap→Prop}{rest:List AFrame}
 (hK:∀ O' N' td,N≤N'→BS O' bb lo N' (xs++(if i=0 then [] else w))→(∀ j,j<lo→j≠bb→O'.get j=O.get j)→Goal P keep f0 Q (AM.mk (RF 93 9 .leaf td) rest ⟨O',N',G⟩)):Goal P keep f0 Q (AM.mk (enF 93 [.int .i64 ((i:Nat):Int),.str w,.ptr bb 0 0]) rest ⟨O,N,G⟩):=by
 by_cases h0:i=0
 ·rw [if_pos h0,List.append_nil] at hK;exact (ot (zsQ (j:=((i:Nat):Int))) (fkf (decide_eq_false (by omega)) (hK O N _ (Nat.le_refl _) h (fun _ _ _=>rfl))))
 ·rw [if_neg h0] at hK;refine (ot (zsQ (j:=((i:Nat):Int))) (fkt (decide_eq_true (by omega)) ?_));refine zd2 h hb hl hn fun O' N' td a b c=>?_;exact (ot (zlr (c:=((w.length:Nat):Int))) (hK O' N' _ a b c))
theorem znq (k:Int){keep:Nat}{f0:FuncId}{Q:AV→AHeap→Prop}{rest:List AFrame}(hK:∀ td,Goal P keep f0 Q (AM.mk (RF 96 12 (tX tZ (tY (.str (plain k)))) td) rest ⟨O,N,G⟩)):Goal P keep f0 Q (AM.mk (enF 96 [.int .i64 k]) rest ⟨O,N,G⟩):=by
 rcases Bool.eq_false_or_eq_true (k==(1:Int)) with hc1 | hc1
 ·
  rw [show plain k=[UInt8.ofNat (97),UInt8.ofNat (110),UInt8.ofNat (121)] from by
   simp only [beq_iff_eq,beq_eq_false_iff_ne] at *;unfold plain
   simp_all] at hK
  exact (ot ztR (fkt hc1 (hK _)))
 ·
  rcases Bool.eq_false_or_eq_true (k==(2:Int)) with hc2 | hc2
  ·
   rw [show plain k=[UInt8.ofNat (105),UInt8.ofNat (110),UInt8.ofNat (116)] from by
    simp only [beq_iff_eq,beq_eq_false_iff_ne] at *;unfold plain
    simp_all] at hK
   exact (ot ztR (fkf hc1 (fkt hc2 (hK _))))
  ·
   rcases Bool.eq_false_or_eq_true (k==(3:Int)) with hc3 | hc3
   ·
    rw [show plain k=[UInt8.ofNat (98),UInt8.ofNat (111),UInt8.ofNat (111),UInt8.ofNat (108)] from by
     simp only [beq_iff_eq,beq_eq_false_iff_ne] at *;unfold plain
     simp_all] at hK
    exact (ot ztR (fkf hc1 (fkf hc2 (fkt hc3 (hK _)))))
   ·
    rcases Bool.eq_false_or_eq_true (k==(4:Int)) with hc4 | hc4
    ·
     rw [show plain k=[UInt8.ofNat (115),UInt8.ofNat (116),UInt8.ofNat (114)] from by
      simp only [beq_iff_eq,beq_eq_false_iff_ne] at *;unfold plain
      simp_all] at hK
     exact (ot ztR (fkf hc1 (fkf hc2 (fkf hc3 (fkt hc4 (hK _))))))
    ·
     rw [show plain k=[UInt8.ofNat (110),UInt8.ofNat (105),UInt8.ofNat (108)] from by
      simp only [beq_iff_eq,beq_eq_false_iff_ne] at *;unfold plain
      simp_all] at hK
     exact (ot ztR (fkf hc1 (fkf hc2 (fkf hc3 (fkf hc4 (hK _))))))
end Go.Proofs.Ytcdigdplhlgcaaa.gx
end
section
set_option maxRecDepth 100000
set_option linter.unusedVariables false
set_option linter.unusedSectionVars false
set_option linter.unusedSimpArgs false
namespace Go.Proofs.Ytcdigdplhlgcaaa.gx
open Go Ev tp
variable {O O':T AObj} {N:Nat} {G:T (T AV)}
def WC (G:T (T AV)) (t:Ty):Prop:=∀ (keep:Nat) (f0:FuncId) (Q:AV→AHeap→Prop) (hi bb ob tb lo:Nat) (p:Option Nat) (rest:List AFrame) (O:T AObj) (N:Nat) (xs:List UInt8),Tr O hi t p→hi≤bb→bb<lo→ob<lo→tb<lo→ob≠bb→tb≠bb→hi≤ob→hi≤tb→lo≤N→BS O bb lo N xs→Obj O ob [.fn (Fn.func 93) [] [.ptr bb 0 0]]→Obj O tb [.fn (Fn.func 95) [] [.ptr bb 0 0,.ptr ob 0 0,.ptr tb 0 0]]→xs.length+(wr t).length≤50000 →
 (∀ O' N' td,N≤N'→BS O' bb lo N' (xs++wr t)→(∀ j,j<lo→j≠bb→O'.get j=O.get j)→Goal P keep f0 Q (AM.mk (RF 95 114 .leaf td) rest ⟨O',N',G⟩)) →
 Goal P keep f0 Q (AM.mk (enF 95 [pv p,.ptr bb 0 0,.ptr ob 0 0,.ptr tb 0 0]) rest ⟨O,N,G⟩)
def TC (G:T (T AV)) (t:Ty):Prop:=∀ (keep:Nat) (f0:FuncId) (Q:AV→AHeap→Prop) (hi:Nat) (p:Option Nat) (rest:List AFrame) (O:T AObj) (N:Nat),Tr O hi t p→hi≤N →
 (∀ O' N' td,Ext O N O' N'→Goal P keep f0 Q (AM.mk (RF 47 12 (tX tZ (tY (.str (wr t)))) td) rest ⟨O',N',G⟩))→Goal P keep f0 Q (AM.mk (enF 47 [pv p]) rest ⟨O,N,G⟩)
theorem wr_ne {t:Ty}(h:okT t=true):wr t≠[]:=by
 cases t with
 | no=>rw [xX] at h; cases h
 | mk k nm ns ts r =>
  obtain ⟨h1,h2,h3,h4⟩:=xG h;rw [zjZ];unfold txt;split
  ·rename_i hk;unfold okK at h4;rw [if_pos hk] at h4;unfold zK at h4;simp only [Bool.and_eq_true,decide_eq_true_eq] at h4;intro e;rw [e] at h4;simp at h4
  ·split
   ·simp
   ·split
    ·simp
    ·split
     ·rename_i hk;unfold okK at h4;rw [if_neg (by omega),if_neg (by omega),if_pos hk] at h4;simp only [Bool.and_eq_true,decide_eq_true_eq] at h4;rcases ts with _ | ⟨x,_ | ⟨y,l⟩⟩
      ·simp at h4
      ·simp at h4
      ·simp [wrL,zch,zD]
     ·unfold plain;split
      ·simp
      ·split
       ·simp
       ·split
        ·simp
        ·split <;> simp
theorem zk1 {t:Ty}(ho:okT t=true)(hc:cnt t≤60)(W:WC G t):TC G t:=by
 intro keep f0 Q hi p rest O N ht hN hK;have hlen:=yf ho hc;obtain ⟨O1,e1,b1,f1⟩:=Obj.mk (c:=(tW (tY (.nils 0 0)) .nilp tZ)) (el:=98) [.nilp,.nils 0 0] O N 2 rfl (fun u hu=>by rcases u with _ | _ | u <;> first | rfl | omega)
 have raw:O1.get N=some (.cells (tW (tY (.nils 0 0)) .nilp tZ) 2 98 0 0 1 0 false .leaf):=by rw [← e1,T.get_set,if_pos rfl]
 obtain ⟨O2,e2,b2,f2⟩:=Obj.mk (c:=(tY .nilf)) (el:=103) [.nilf] O1 (N+1) 1 rfl (fun u hu=>by rcases u with _ | u <;> first | rfl | omega)
 obtain ⟨O3,s3,b3,f3⟩:=b2.store 0 [.fn (Fn.func 93) [] [.ptr N 0 0]] (N+2) G (Nat.le_of_ble_eq_true rfl) rfl;obtain ⟨O4,e4,b4,f4⟩:=Obj.mk (c:=(tY .nilf)) (el:=104) [.nilf] O3 (N+2) 1 rfl (fun u hu=>by rcases u with _ | u <;> first | rfl | omega)
 obtain ⟨O5,s5,b5,f5⟩:=b4.store 0 [.fn (Fn.func 95) [] [.ptr N 0 0,.ptr (N+1) 0 0,.ptr (N+2) 0 0]] (N+3) G (Nat.le_of_ble_eq_true rfl) rfl;have q1:O5.get N=O1.get N:=(f5 N (by omega)).trans ((f4 N (by omega)).trans ((f3 N (by omega)).trans (f2 N (by omega))));have q2:∀ j,j<N→O5.get j=O.get j:=fun j hj=>(f5 j (by omega)).trans ((f4 j (by omega)).trans ((f3 j (by omega)).trans ((f2 j (by omega)).trans (f1 j (by omega)))));have o5:Obj O5 (N+1) [.fn (Fn.func 93) [] [.ptr N 0 0]]:=b3.same ((f5 _ (by omega)).trans (f4 _ (by omega)));refine (ot (t_tex (pp:=(pv p))) ⟨_,_,_,_,_,e1,e2,s3,e4,s5,b5.ld 0 rfl,?_⟩);refine W keep f0 Q hi N (N+1) (N+2) (N+3) p _ O5 (N+3) [] (ht.same (fun j hj=>q2 j (by omega)) (Nat.le_refl _)) hN (by omega) (by omega) (by omega) (by omega) (by omega) (by omega) (by omega) (by omega) ⟨.nilp,.nils 0 0,b1.same q1,.inl ⟨rfl,_,by rw [q1]; exact raw⟩,.inl ⟨rfl,rfl⟩⟩ o5 b5 (by simp; omega) ?_;intro O6 N6 td hN6 hb fr;refine (ot (znG (pp:=(pv p))) ?_);rw [List.nil_append] at hb;obtain ⟨a,s,h1,h3,h4⟩:=hb;obtain ⟨s1,O7,g1,g2,g3,g4⟩:=h4.str (.inl (wr_ne ho)) (by omega) N6 G;refine (ot (t_bst (bs2:=s)) ⟨_,(((wr t).length:Nat):Int),(wr t),O7,h1.ld 1 rfl,g1,h1.ld 1 rfl,h4.len _ _,g3,?_⟩);refine (ot (zgK (wa:=(wr t))) ?_);exact hK O7 N6 _ ⟨by omega,fun j hj=>(g4 j (fun hne=>by have:=(h4.sid_lt hne).1; omega)).trans ((fr j (by omega) (by omega)).trans (q2 j hj))⟩
theorem vp:∀ (m:Nat) (t:Ty),cnt t≤m∧cnt t≤60→okT t=true→WC G t
 | m,.no,hm,hok=>by rw [xX] at hok; cases hok
 | 0,.mk k nm ns ts r,hm,hok=>by rw [z9] at hm; omega
 | m+1,.mk k nm ns ts r,hm,hok=>by
  intro keep f0 Q hi bb ob tb lo p rest O N xs ht hbb hbl hobl htbl hobb htbb ho1 ho2 hlo hbs0 hob htb hlen hK;obtain ⟨id,sn,sa,ps,q,rfl,i1',i2',i3',i4',i5',i6',i7',i8',i9'⟩:=ht.inv;have hsh:=yf hok hm.2;obtain ⟨oo,okx,okr',okk⟩:=xG hok;have hf:=wQ oo;rw [z9] at hm;rw [zjZ] at hK hlen hsh
  by_cases k6:k=6
  ·subst k6;rw [show txt 6 nm ns ts (wrL ts) (wr r)=nm from rfl] at hK hlen
   refine (ot (zma (k:=6) (nm:=nm) (sa:=.nilp)) ⟨i2'.ld 0 rfl,fkt rfl ⟨i2'.ld 1 rfl,?_⟩⟩);refine zd2 hbs0 hbl hlo (by omega) fun O1 N1 td n1 hb1 fr1=>?_;exact (ot (zlE (c:=((nm.length:Nat):Int))) (hK O1 N1 _ n1 hb1 fr1))
  have b6:(k==(6:Int))=false:=beq_eq_false_iff_ne.2 k6
  by_cases k7:k=7
  ·subst k7;have hnl:ns.length=ts.length:=by
    unfold okK at okk;simp only [show ((7:Int)=6)=False by decide,if_false,if_true,Bool.and_eq_true,decide_eq_true_eq] at okk;exact okk.1.1
   rw [show txt 7 nm ns ts (wrL ts) (wr r)=[123]++zD [44,32] 0 (zck ns (wrL ts))++[125] from rfl] at hK hlen
   generalize hFA':xs++[123]++zD [44,32] 0 (zck ns (wrL ts))=FA;have hFl:FA.length+1≤50000:=by rw [← hFA']; simp only [List.length_append,List.length_cons,List.length_nil] at hlen ⊢; omega
   have hfin:∀ O' N' td,N≤N'→BS O' bb lo N' (FA++[125])→(∀ j,j<lo→j≠bb→O'.get j=O.get j)→Goal P keep f0 Q (AM.mk (RF 95 114 .leaf td) rest ⟨O',N',G⟩):=fun O' N' td a b c=>hK O' N' td a (by rw [← hFA'] at b; simpa using b) c
   have loop:∀ (k' i:Nat) (O2:T AObj) (N2:Nat) (w:List UInt8),i+k'=ts.length→(N≤N2∧∀ j,j<lo→j≠bb→O2.get j=O.get j)→BS O2 bb lo N2 w→w++zD [44,32] i (zck (ns.drop i) (wrL (ts.drop i)))=FA→Goal P keep f0 Q (Wtb id sa ((ts.length:Nat):Int) ((i:Nat):Int) tb bb ob rest O2 N2 G):=by
    intro k'
    induction k' with
    | zero =>
     intro i O2 N2 w hk ex hbs hw;have exle:=ex.1;have tO2:=i2'.same (ex.2 id (by omega) (by omega));have sO2:=i4'.keep (O':=O2) (fun j _ hj=>ex.2 j (by omega) (by omega)) (Nat.le_refl 0) (Nat.le_refl hi);have nO2:=i3'.keep (O':=O2) (fun j _ hj=>ex.2 j (by omega) (by omega)) (Nat.le_refl 0) (Nat.le_refl hi);have obO:=hob.same (ex.2 ob hobl hobb);have tbO:=htb.same (ex.2 tb htbl htbb);rw [List.drop_of_length_le (l:=ts) (by omega)] at hw;have hw':w=FA:=by rw [← hw]; simp [wrL,zck,zD]
     subst hw';refine (ot (zpo (n:=((ts.length:Nat):Int)) (j:=((i:Nat):Int))) (fkf (decide_eq_false (by omega)) ?_));refine zd2 hbs hbl (by omega) (by simp only [List.length_cons,List.length_nil]; omega) fun O3 N3 td n3 hb3 fr3=>?_;exact (ot (zjQ (c:=((1:Nat):Int))) (hfin O3 N3 _ (by omega) hb3 (fun j h1 h2=>(fr3 j h1 h2).trans (ex.2 j h1 h2))))
    | succ k' ih =>
     intro i O2 N2 w hk ex hbs hw;have exle:=ex.1;have tO2:=i2'.same (ex.2 id (by omega) (by omega));have sO2:=i4'.keep (O':=O2) (fun j _ hj=>ex.2 j (by omega) (by omega)) (Nat.le_refl 0) (Nat.le_refl hi);have nO2:=i3'.keep (O':=O2) (fun j _ hj=>ex.2 j (by omega) (by omega)) (Nat.le_refl 0) (Nat.le_refl hi);have obO:=hob.same (ex.2 ob hobl hobb);have tbO:=htb.same (ex.2 tb htbl htbb);obtain ⟨x,hx,hxm⟩:=nth (l:=ts) (j:=i) (by omega);obtain ⟨y,hy',_⟩:=nth (l:=ps) (j:=i) (by omega);have hcm:=xf hxm;have okx':=okx x hxm;have hxs:=yf okx' (by omega);have tx:=(i8' i _ _ hx hy');obtain ⟨n,hw2,_⟩:=nth (l:=ns) (j:=i) (by omega);rw [zr hw2,zr hx] at hw;simp only [wrL,zck,zD] at hw;have hl:=congrArg List.length hw;simp only [List.length_append,List.length_cons,List.length_nil] at hl;obtain ⟨i1,i2,i3,lo1,hi1,eA,rd,_⟩:=sO2.at pSl pEn hy';refine (ot (zpo (n:=((ts.length:Nat):Int)) (j:=((i:Nat):Int))) (fkt (decide_eq_true (by omega)) ⟨_,_,_,(pv y),eA,rd.load rfl _ _,obO.ld 0 rfl,?_⟩));refine zlO hbs hbl (by omega) (by simp only [List.length_cons,List.length_nil]; omega) fun O3 N3 td n3 hb3 fr3=>?_;have ex3:N≤N3∧∀ j,j<lo→j≠bb→O3.get j=O.get j:=⟨by omega,fun j h1 h2=>(fr3 j h1 h2).trans (ex.2 j h1 h2)⟩;have tO3:=i2'.same (ex3.2 id (by omega) (by omega));have nO3:=i3'.keep (O':=O3) (fun j _ hj=>ex3.2 j (by omega) (by omega)) (Nat.le_refl 0) (Nat.le_refl hi);obtain ⟨j1,j2,j3,lo2,hi2,eB,rdB,_⟩:=nO3.at sSl sEn hw2;refine (ot (zi7 (sn:=sn) (n:=((ts.length:Nat):Int)) (j:=((i:Nat):Int)) (s1c:=(pv y))) ⟨j1,j2,j3,n,tO3.ld 2 rfl,eB,rdB.load rfl _ _,by omega,?_⟩);refine zd2 hb3 hbl (by omega) (by by_cases hi0:i=0 <;> simp only [hi0,if_true,if_false,List.length_append,List.length_cons,List.length_nil] at*<;> omega) fun O4 N4 td4 n4 hb4 fr4=>?_;have ex4:N≤N4∧∀ j,j<lo→j≠bb→O4.get j=O.get j:=⟨by omega,fun j h1 h2=>(fr4 j h1 h2).trans (ex3.2 j h1 h2)⟩;have tb4:=htb.same (ex4.2 tb htbl htbb);have ob4:=hob.same (ex4.2 ob hobl hobb);refine (ot (zde (c:=(((n++[58,32]).length:Nat):Int)) (n:=((ts.length:Nat):Int)) (j:=((i:Nat):Int)) (s1c:=(pv y))) ⟨tb4.ld 0 rfl,?_⟩);refine vp m x (by omega) okx' keep f0 Q hi bb ob tb lo y _ O4 N4 _ (tx.same (fun j hj=>ex4.2 j (by omega) (by omega)) (Nat.le_refl _)) hbb hbl hobl htbl hobb htbb ho1 ho2 (by omega) hb4 ob4 tb4 (by by_cases hi0:i=0 <;> simp only [hi0,if_true,if_false,List.length_append,List.length_cons,List.length_nil] at*<;> omega) fun O5 N5 td5 n5 hb5 fr5=>?_;have ex5:N≤N5∧∀ j,j<lo→j≠bb→O5.get j=O.get j:=⟨by omega,fun j h1 h2=>(fr5 j h1 h2).trans (ex4.2 j h1 h2)⟩;have nx:=ih (i+1) O5 N5 _ (by omega) ex5 hb5 (by rw [← hw]; simp);rw [← zq (i:=i) (by omega)] at nx;exact (ot (zaG (n:=((ts.length:Nat):Int)) (j:=((i:Nat):Int)) (s1c:=(pv y))) nx)
   refine (ot (zma (k:=7) (nm:=[]) (sa:=.nilp)) ⟨i2'.ld 0 rfl,fkf rfl (fkt rfl ?_)⟩);refine zd2 hbs0 hbl hlo (by simp only [List.length_append,List.length_cons,List.length_nil] at *; omega) fun O1 N1 td n1 hb1 fr1=>?_;have tO1:=i2'.same (fr1 id (by omega) (by omega));have sO1:=i4'.keep (O':=O1) (fun j _ hj=>fr1 j (by omega) (by omega)) (Nat.le_refl 0) (Nat.le_refl hi);have:=loop ts.length 0 O1 N1 (xs++[123]) (Nat.zero_add _) ⟨n1,fr1⟩ hb1 hFA';exact (ot (zjf (sa:=sa) (c:=((1:Nat):Int))) ⟨((ts.length:Nat):Int),tO1.ld 3 rfl,by rw [← i5']; exact sO1.len pSl _ _,this⟩)
  have b7:(k==(7:Int))=false:=beq_eq_false_iff_ne.2 k7
  by_cases k8:k=8
  ·subst k8;have okr:okT r=true:=by
    rcases okr' with h | h
    ·rw [(hf.2.1).1 rfl] at h; cases h
    ·exact h
   rw [show txt 8 nm ns ts (wrL ts) (wr r)=[102,110,40]++zD [44,32] 0 (wrL ts)++[41,32,45,62,32]++wr r from rfl] at hK hlen
   generalize hFA':xs++[102,110,40]++zD [44,32] 0 (wrL ts)=FA;have hFl:FA.length+5+(wr r).length≤50000:=by rw [← hFA']; simp only [List.length_append,List.length_cons,List.length_nil] at hlen ⊢; omega
   have hfin:∀ O' N' td,N≤N'→BS O' bb lo N' (FA++[41,32,45,62,32]++wr r)→(∀ j,j<lo→j≠bb→O'.get j=O.get j)→Goal P keep f0 Q (AM.mk (RF 95 114 .leaf td) rest ⟨O',N',G⟩):=fun O' N' td a b c=>hK O' N' td a (by rw [← hFA'] at b; simpa using b) c
   have loop:∀ (k' i:Nat) (O2:T AObj) (N2:Nat) (w:List UInt8),i+k'=ts.length→(N≤N2∧∀ j,j<lo→j≠bb→O2.get j=O.get j)→BS O2 bb lo N2 w→w++zD [44,32] i (wrL (ts.drop i))=FA→Goal P keep f0 Q (Wtc id sa ((ts.length:Nat):Int) ((i:Nat):Int) tb bb ob rest O2 N2 G):=by
    intro k'
    induction k' with
    | zero =>
     intro i O2 N2 w hk ex hbs hw;have exle:=ex.1;have tO2:=i2'.same (ex.2 id (by omega) (by omega));have sO2:=i4'.keep (O':=O2) (fun j _ hj=>ex.2 j (by omega) (by omega)) (Nat.le_refl 0) (Nat.le_refl hi);have nO2:=i3'.keep (O':=O2) (fun j _ hj=>ex.2 j (by omega) (by omega)) (Nat.le_refl 0) (Nat.le_refl hi);have obO:=hob.same (ex.2 ob hobl hobb);have tbO:=htb.same (ex.2 tb htbl htbb);rw [List.drop_of_length_le (l:=ts) (by omega)] at hw;have hw':w=FA:=by rw [← hw]; simp [wrL,zD]
     subst hw';refine (ot (zoO (n:=((ts.length:Nat):Int)) (j:=((i:Nat):Int))) (fkf (decide_eq_false (by omega)) ?_));refine zd2 hbs hbl (by omega) (by simp only [List.length_cons,List.length_nil]; omega) fun O3 N3 td n3 hb3 fr3=>?_;have ex3:N≤N3∧∀ j,j<lo→j≠bb→O3.get j=O.get j:=⟨by omega,fun j h1 h2=>(fr3 j h1 h2).trans (ex.2 j h1 h2)⟩;have tb3:=htb.same (ex3.2 tb htbl htbb);have ob3:=hob.same (ex3.2 ob hobl hobb);have tO3:=i2'.same (ex3.2 id (by omega) (by omega));refine (ot (ziO (rp:=(pv q)) (ob:=ob) (c:=((5:Nat):Int))) ⟨tb3.ld 0 rfl,tO3.ld 4 rfl,?_⟩);refine vp m r (by omega) okr keep f0 Q hi bb ob tb lo q _ O3 N3 _ (i9'.same (fun j hj=>ex3.2 j (by omega) (by omega)) (Nat.le_refl _)) hbb hbl hobl htbl hobb htbb ho1 ho2 (by omega) hb3 ob3 tb3 (by simp only [List.length_append,List.length_cons,List.length_nil]; omega) fun O4 N4 td4 n4 hb4 fr4=>?_;exact (ot (zdx (rp:=(pv q)) (c:=((5:Nat):Int))) (hfin O4 N4 _ (by omega) hb4 (fun j h1 h2=>(fr4 j h1 h2).trans (ex3.2 j h1 h2))))
    | succ k' ih =>
     intro i O2 N2 w hk ex hbs hw;have exle:=ex.1;have tO2:=i2'.same (ex.2 id (by omega) (by omega));have sO2:=i4'.keep (O':=O2) (fun j _ hj=>ex.2 j (by omega) (by omega)) (Nat.le_refl 0) (Nat.le_refl hi);have nO2:=i3'.keep (O':=O2) (fun j _ hj=>ex.2 j (by omega) (by omega)) (Nat.le_refl 0) (Nat.le_refl hi);have obO:=hob.same (ex.2 ob hobl hobb);have tbO:=htb.same (ex.2 tb htbl htbb);obtain ⟨x,hx,hxm⟩:=nth (l:=ts) (j:=i) (by omega);obtain ⟨y,hy',_⟩:=nth (l:=ps) (j:=i) (by omega);have hcm:=xf hxm;have okx':=okx x hxm;have hxs:=yf okx' (by omega);have tx:=(i8' i _ _ hx hy');rw [zr hx] at hw;simp only [wrL,zD] at hw;have hl:=congrArg List.length hw;simp only [List.length_append,List.length_cons,List.length_nil] at hl;obtain ⟨i1,i2,i3,lo1,hi1,eA,rd,_⟩:=sO2.at pSl pEn hy';refine (ot (zoO (n:=((ts.length:Nat):Int)) (j:=((i:Nat):Int))) (fkt (decide_eq_true (by omega)) ⟨_,_,_,(pv y),eA,rd.load rfl _ _,obO.ld 0 rfl,?_⟩));refine zlO hbs hbl (by omega) (by simp only [List.length_cons,List.length_nil]; omega) fun O3 N3 td n3 hb3 fr3=>?_;have ex3:N≤N3∧∀ j,j<lo→j≠bb→O3.get j=O.get j:=⟨by omega,fun j h1 h2=>(fr3 j h1 h2).trans (ex.2 j h1 h2)⟩;have tb3:=htb.same (ex3.2 tb htbl htbb);have ob3:=hob.same (ex3.2 ob hobl hobb);refine (ot (zjM (n:=((ts.length:Nat):Int)) (j:=((i:Nat):Int)) (s1c:=(pv y))) ⟨tb3.ld 0 rfl,?_⟩);refine vp m x (by omega) okx' keep f0 Q hi bb ob tb lo y _ O3 N3 _ (tx.same (fun j hj=>ex3.2 j (by omega) (by omega)) (Nat.le_refl _)) hbb hbl hobl htbl hobb htbb ho1 ho2 (by omega) hb3 ob3 tb3 (by by_cases hi0:i=0 <;> simp only [hi0,if_true,if_false,List.length_append,List.length_cons,List.length_nil] at*<;> omega) fun O4 N4 td4 n4 hb4 fr4=>?_;have ex4:N≤N4∧∀ j,j<lo→j≠bb→O4.get j=O.get j:=⟨by omega,fun j h1 h2=>(fr4 j h1 h2).trans (ex3.2 j h1 h2)⟩;have nx:=ih (i+1) O4 N4 _ (by omega) ex4 hb4 (by rw [← hw]; simp);rw [← zq (i:=i) (by omega)] at nx;exact (ot (zdi (n:=((ts.length:Nat):Int)) (j:=((i:Nat):Int)) (s1c:=(pv y))) nx)
   refine (ot (zma (k:=8) (nm:=[]) (sa:=.nilp)) ⟨i2'.ld 0 rfl,fkf rfl (fkf rfl (fkt rfl ?_))⟩);refine zd2 hbs0 hbl hlo (by simp only [List.length_append,List.length_cons,List.length_nil] at *; omega) fun O1 N1 td n1 hb1 fr1=>?_;have tO1:=i2'.same (fr1 id (by omega) (by omega));have sO1:=i4'.keep (O':=O1) (fun j _ hj=>fr1 j (by omega) (by omega)) (Nat.le_refl 0) (Nat.le_refl hi);have:=loop ts.length 0 O1 N1 (xs++[102,110,40]) (Nat.zero_add _) ⟨n1,fr1⟩ hb1 hFA';exact (ot (zgz (sa:=sa) (c:=((3:Nat):Int))) ⟨((ts.length:Nat):Int),tO1.ld 3 rfl,by rw [← i5']; exact sO1.len pSl _ _,this⟩)
  have b8:(k==(8:Int))=false:=beq_eq_false_iff_ne.2 k8
  by_cases k9:k=9
  ·subst k9;rw [show txt 9 nm ns ts (wrL ts) (wr r)=zD [32,124,32] 0 (zch ts (wrL ts)) from rfl] at hK hlen
   generalize hFA':xs++zD [32,124,32] 0 (zch ts (wrL ts))=FA;have hFl:FA.length≤50000:=by rw [← hFA']; simp only [List.length_append] at hlen ⊢; omega
   have hfin:∀ O' N' td,N≤N'→BS O' bb lo N' FA→(∀ j,j<lo→j≠bb→O'.get j=O.get j)→Goal P keep f0 Q (AM.mk (RF 95 114 .leaf td) rest ⟨O',N',G⟩):=fun O' N' td a b c=>hK O' N' td a (by rw [hFA']; exact b) c;have loop:∀ (k' i:Nat) (O2:T AObj) (N2:Nat) (w:List UInt8),i+k'=ts.length→(N≤N2∧∀ j,j<lo→j≠bb→O2.get j=O.get j)→BS O2 bb lo N2 w→w++zD [32,124,32] i (zch (ts.drop i) (wrL (ts.drop i)))=FA→Goal P keep f0 Q (Wta sa ((ts.length:Nat):Int) ((i:Nat):Int) tb bb ob rest O2 N2 G):=by
    intro k'
    induction k' with
    | zero =>
     intro i O2 N2 w hk ex hbs hw;have exle:=ex.1;have tO2:=i2'.same (ex.2 id (by omega) (by omega));have sO2:=i4'.keep (O':=O2) (fun j _ hj=>ex.2 j (by omega) (by omega)) (Nat.le_refl 0) (Nat.le_refl hi);have nO2:=i3'.keep (O':=O2) (fun j _ hj=>ex.2 j (by omega) (by omega)) (Nat.le_refl 0) (Nat.le_refl hi);have obO:=hob.same (ex.2 ob hobl hobb);have tbO:=htb.same (ex.2 tb htbl htbb);rw [List.drop_of_length_le (l:=ts) (by omega)] at hw;have hw':w=FA:=by rw [← hw]; simp [wrL,zch,zD]
     subst hw';exact (ot (zom (q:=0) (n:=((ts.length:Nat):Int)) (j:=((i:Nat):Int))) (fkf (decide_eq_false (by omega)) (hfin O2 N2 _ ex.1 hbs ex.2)))
    | succ k' ih =>
     intro i O2 N2 w hk ex hbs hw;have exle:=ex.1;have tO2:=i2'.same (ex.2 id (by omega) (by omega));have sO2:=i4'.keep (O':=O2) (fun j _ hj=>ex.2 j (by omega) (by omega)) (Nat.le_refl 0) (Nat.le_refl hi);have nO2:=i3'.keep (O':=O2) (fun j _ hj=>ex.2 j (by omega) (by omega)) (Nat.le_refl 0) (Nat.le_refl hi);have obO:=hob.same (ex.2 ob hobl hobb);have tbO:=htb.same (ex.2 tb htbl htbb);obtain ⟨x,hx,hxm⟩:=nth (l:=ts) (j:=i) (by omega);obtain ⟨y,hy',_⟩:=nth (l:=ps) (j:=i) (by omega);have hcm:=xf hxm;have okx':=okx x hxm;obtain ⟨k2,nm2,ns2,ts2,r2,rfl⟩:∃ k2 nm2 ns2 ts2 r2,x=Ty.mk k2 nm2 ns2 ts2 r2:=by
      cases x with
      | no=>rw [xX] at okx'; cases okx'
      | mk a b c d e=>exact ⟨a,b,c,d,e,rfl⟩
     obtain ⟨q2,_,_,_,_,hyq,qlt,xO,_⟩:=(i8' i _ y hx hy').inv;subst hyq;have tx:=(i8' i _ _ hx hy');have hxs:=yf okx' (by omega);rw [zr hx] at hw;simp only [wrL,zch,zD] at hw;have hl:=congrArg List.length hw;simp only [List.length_append,List.length_cons,List.length_nil] at hl;obtain ⟨i1,i2,i3,lo1,hi1,eA,rd,_⟩:=sO2.at pSl pEn hy';refine (ot (zom (q:=q2) (n:=((ts.length:Nat):Int)) (j:=((i:Nat):Int))) (fkt (decide_eq_true (by omega)) ⟨_,_,_,eA,rd.load rfl _ _,obO.ld 0 rfl,?_⟩));refine zlO hbs hbl (by omega) (by simp only [List.length_cons,List.length_nil]; omega) fun O3 N3 td n3 hb3 fr3=>?_;have ex3:N≤N3∧∀ j,j<lo→j≠bb→O3.get j=O.get j:=⟨by omega,fun j h1 h2=>(fr3 j h1 h2).trans (ex.2 j h1 h2)⟩;have xO3:=xO.same (ex3.2 q2 (by omega) (by omega))
     by_cases h8:k2=8
     ·subst h8;rw [show kd (Ty.mk 8 nm2 ns2 ts2 r2)=8 from rfl,if_pos rfl] at hw
      have hl:=congrArg List.length hw;simp only [List.length_append,List.length_cons,List.length_nil] at hl;refine (ot (zcP (k2:=8) (n:=((ts.length:Nat):Int)) (j:=((i:Nat):Int))) ⟨xO3.ld 0 rfl,fkt rfl ?_⟩);refine zk1 okx' (by omega) (vp m _ (by omega) okx') keep f0 Q hi (some q2) _ O3 N3 (tx.same (fun j hj=>ex3.2 j (by omega) (by omega)) (Nat.le_refl _)) (by omega) fun O4 N4 td4 ex4'=>?_;have fr4:∀ j,j<lo→j≠bb→O4.get j=O3.get j:=fun j h1 h2=>ex4'.2 j (by omega);have n4:=ex4'.1;have ex4:N≤N4∧∀ j,j<lo→j≠bb→O4.get j=O.get j:=⟨by omega,fun j h1 h2=>(fr4 j h1 h2).trans (ex3.2 j h1 h2)⟩;have hb4:=hb3.keep (O':=O4) (N':=N4) hbl (fun j hj=>ex4'.2 j hj) (by omega) n4;refine (ot (zcv (n:=((ts.length:Nat):Int)) (j:=((i:Nat):Int)) (wa:=(wr (.mk 8 nm2 ns2 ts2 r2)))) ⟨by omega,by simp only [List.length_append,List.length_cons,List.length_nil]; omega,?_⟩);refine zd2 hb4 hbl (by omega) (by by_cases hi0:i=0 <;> simp only [hi0,if_true,if_false,List.length_append,List.length_cons,List.length_nil] at*<;> omega) fun O5 N5 td5 n5 hb5 fr5=>?_;have ex5:N≤N5∧∀ j,j<lo→j≠bb→O5.get j=O.get j:=⟨by omega,fun j h1 h2=>(fr5 j h1 h2).trans (ex4.2 j h1 h2)⟩;have nx:=ih (i+1) O5 N5 _ (by omega) ex5 hb5 (by rw [← hw]; simp);rw [← zq (i:=i) (by omega)] at nx;exact (ot (jS (c:=((([40]++wr (.mk 8 nm2 ns2 ts2 r2)++[41]).length:Nat):Int)) (n:=((ts.length:Nat):Int)) (j:=((i:Nat):Int)) (wa:=(wr (.mk 8 nm2 ns2 ts2 r2)))) nx)
     ·rw [show kd (Ty.mk k2 nm2 ns2 ts2 r2)=k2 from rfl,if_neg h8] at hw
      have hl:=congrArg List.length hw;simp only [List.length_append,List.length_cons,List.length_nil] at hl;have tb3:=htb.same (ex3.2 tb htbl htbb);have ob3:=hob.same (ex3.2 ob hobl hobb);refine (ot (zcP (k2:=k2) (n:=((ts.length:Nat):Int)) (j:=((i:Nat):Int))) ⟨xO3.ld 0 rfl,fkf (beq_eq_false_iff_ne.2 h8) ⟨tb3.ld 0 rfl,?_⟩⟩);refine vp m (.mk k2 nm2 ns2 ts2 r2) (by omega) okx' keep f0 Q hi bb ob tb lo (some q2) _ O3 N3 _ (tx.same (fun j hj=>ex3.2 j (by omega) (by omega)) (Nat.le_refl _)) hbb hbl hobl htbl hobb htbb ho1 ho2 (by omega) hb3 ob3 tb3 (by by_cases hi0:i=0 <;> simp only [hi0,if_true,if_false,List.length_append,List.length_cons,List.length_nil] at*<;> omega) fun O4 N4 td4 n4 hb4 fr4=>?_;have ex4:N≤N4∧∀ j,j<lo→j≠bb→O4.get j=O.get j:=⟨by omega,fun j h1 h2=>(fr4 j h1 h2).trans (ex3.2 j h1 h2)⟩;have nx:=ih (i+1) O4 N4 _ (by omega) ex4 hb4 (by rw [← hw]; simp);rw [← zq (i:=i) (by omega)] at nx;exact (ot (zcz (n:=((ts.length:Nat):Int)) (j:=((i:Nat):Int))) nx)
   have:=loop ts.length 0 O N xs (Nat.zero_add _) ⟨Nat.le_refl _,fun _ _ _=>rfl⟩ hbs0 hFA';exact (ot (zma (k:=9) (nm:=[]) (sa:=sa)) ⟨i2'.ld 0 rfl,fkf rfl (fkf rfl (fkf rfl (fkt rfl ⟨((ts.length:Nat):Int),i2'.ld 3 rfl,by rw [← i5']; exact i4'.len pSl _ _,this⟩)))⟩)
  have b9:(k==(9:Int))=false:=beq_eq_false_iff_ne.2 k9;rw [show txt k nm ns ts (wrL ts) (wr r)=plain k by unfold txt; rw [if_neg k6,if_neg k7,if_neg k8,if_neg k9]] at hK hlen;refine (ot (zma (k:=k) (nm:=[]) (sa:=.nilp)) ⟨i2'.ld 0 rfl,fkf b6 (fkf b7 (fkf b8 (fkf b9 ⟨i2'.ld 0 rfl,?_⟩)))⟩);refine znq k fun td=>?_;refine (ot (zeD (wb:=(plain k))) ?_);refine zd2 hbs0 hbl hlo (by omega) fun O1 N1 td n1 hb1 fr1=>?_;exact (ot (zbp (c:=(((plain k).length:Nat):Int)) (wb:=(plain k))) (hK O1 N1 _ n1 hb1 fr1))
theorem zgY {t:Ty}(ho:okT t=true)(hc:cnt t≤60):TC G t:=zk1 ho hc (vp (cnt t) t ⟨Nat.le_refl _,hc⟩ ho)
end Go.Proofs.Ytcdigdplhlgcaaa.gx
end
section
set_option maxRecDepth 100000
set_option linter.unusedVariables false
set_option linter.unusedSectionVars false
set_option linter.unusedSimpArgs false
namespace Go.Proofs.Ytcdigdplhlgcaaa.gx
open Go Ev tp
section
variable (sa:AV) (n j:Int) (s1 so:AV) (rest:List AFrame) (O:T AObj) (N:Nat) (G:T (T AV)) (pp:AV)
noncomputable def Wtxs:AM:=⟨frm 89 19 (tX (tX (tW (tY (.int .i64 n)) so tZ) tZ) (tX (tX (tY (.int .i64 j)) tZ) (tY sa))) [cdi 89 [1,1,0,1,0,0],ili 89 [1,1,0,1,0,0],.inBlock 0,cdi 89 [1,1,1]],rest,⟨O,N,G⟩⟩
noncomputable def zoQ:AFrame:=frm 89 19 (tX (tX (tX (tY (.int .i64 n)) tZ) (tX tZ (tY s1))) (tX (tX (tY (.int .i64 j)) (tY so)) (tY sa))) [opi 89 [1,1,0,1,0,0,1,1,0,0,1] 2,.inBlock 1,cdi 89 [1,1,0,1,0,0,1,1,1],ili 89 [1,1,0,1,0,0],.inBlock 0,cdi 89 [1,1,1]]
noncomputable def zsK:AFrame:=frm 85 10 (tX (tX tZ (tY (.bool false))) (tX tZ (tY pp))) [opi 85 [1,0] 4,cdi 85 [1,1]]
noncomputable def Wsta:AM:=⟨frm 55 17 (tX (tW (tX (tY sa) tZ) (.fn (Fn.func (85:FuncId)) [] []) (tX (tY (.int .i64 j)) tZ)) (tX (tX (tY (.int .i64 n)) tZ) tZ)) [cdi 55 [1,0,1,0,0],ili 55 [1,0,1,0,0],.inBlock 0,cdi 55 [1,1]],rest,⟨O,N,G⟩⟩
noncomputable def zo8:AFrame:=frm 55 17 (tX (tW (tX (tY sa) tZ) (.fn (Fn.func (85:FuncId)) [] []) (tX (tY (.int .i64 j)) (tY (.fn (Fn.func (85:FuncId)) [] [])))) (tX (tX (tY (.int .i64 n)) tZ) (tX tZ (tY s1)))) [opi 55 [1,0,1,0,0,1,1,0,0,1,0] 2,cdi 55 [1,0,1,0,0,1,1,0,0,1,1],.inBlock 1,cdi 55 [1,0,1,0,0,1,1,1],ili 55 [1,0,1,0,0],.inBlock 0,cdi 55 [1,1]]
noncomputable def Wstb:AM:=⟨frm 55 17 (tX (tW (tX (tY sa) tZ) (.fn (Fn.func (88:FuncId)) [] []) (tX (tY (.int .i64 j)) tZ)) (tX (tX (tY (.int .i64 n)) tZ) tZ)) [cdi 55 [1,0,1,0,0],ili 55 [1,0,1,0,0],.inBlock 0,cdi 55 [1,1]],rest,⟨O,N,G⟩⟩
noncomputable def zof:AFrame:=frm 55 17 (tX (tW (tX (tY sa) tZ) (.fn (Fn.func (88:FuncId)) [] []) (tX (tY (.int .i64 j)) (tY (.fn (Fn.func (88:FuncId)) [] [])))) (tX (tX (tY (.int .i64 n)) tZ) (tX tZ (tY s1)))) [opi 55 [1,0,1,0,0,1,1,0,0,1,0] 2,cdi 55 [1,0,1,0,0,1,1,0,0,1,1],.inBlock 1,cdi 55 [1,0,1,0,0,1,1,1],ili 55 [1,0,1,0,0],.inBlock 0,cdi 55 [1,1]]
end
section
variable {R:AV→AHeap→Prop} {keep N p:Nat} {f0:FuncId} {rest:List AFrame} {O:T AObj} {sa so s1c pp:AV} {G:T (T AV)} {K:AM→Prop} {n j k:Int} {td:List AItem} {wa:List UInt8} {bv:Bool}
theorem t_txs:(∃ (z1:Int),(lN O N G 33 sa z1)∧K (Wtxs sa z1 0 (.nils 0 0) rest O N G))=OT f0 R keep K (.ex fun z1:Int=>(.seq [.run 12,.hopn (.int .i64 z1) O (N),.run 4,.keep [3,6,7,8]] .fin)) ((AM.mk (enF 89 [sa]) rest ⟨O,N,G⟩)):=by kernel_rfl
theorem zpz:(((decide (j<n))=true→(∃ (i1:Nat) (i2:Nat) (i3:Nat) (s1:AV),(iX 33 sa j i1 i2 i3)∧(lR O N G i1 i2 i3 s1)∧K (AM.mk (enF 47 [s1]) ((zoQ sa n j s1 so)::rest) ⟨O,N,G⟩)))∧((decide (j<n))=false→(K (AM.mk (RF 89 19 (tX tZ (tY so)) [cdi 89 [1,1,1,1]]) rest ⟨O,N,G⟩))))=OT f0 R keep K (.seq [.run 5] (.fork 9 (.ex fun i1:Nat=>(.ex fun i2:Nat=>(.ex fun i3:Nat=>(.ex fun s1:AV=>(.seq [.run 6,.hopn (.ptr i1 i2 i3) O (N),.hop (s1) O,.run 5,.keep [6,7,8,12,13],.run 1] .fin))))) (.seq [.run 8,.keep [2]] .fin))) ((Wtxs sa n j so rest O N G)):=by kernel_rfl
theorem zjh:(∃ (O1:T AObj) (s1:AV) (O2:T AObj) (N1:Nat),(zg P (⟨O,N,G⟩) (32) (1) ([(0,.str wa)])=(some (.slc N 0 0 1 1,⟨O1,N+1,G⟩)))∧(zi P (⟨O1,N+1,G⟩) (Builtin.append) ((some 32)) ((some 32)) ([so,.slc N 0 0 1 1])=(some (.val s1 ⟨O2,N1,G⟩)))∧K (Wtxs sa n (IntKind.i64.wrap (j+(1:Int))) s1 rest O2 N1 G))=OT f0 R keep K (.ex fun O1:T AObj=>(.ex fun s1:AV=>(.ex fun O2:T AObj=>(.ex fun N1:Nat=>(.seq [.run 1,.hopn (.slc N 0 0 1 1) O1 (N+1),.hopn (s1) O2 (N1),.run 8,.keep [3,6,7,8]] .fin))))) ((AM.mk (RF 47 12 (tX tZ (tY (.str wa))) td) ((zoQ sa n j s1c so)::rest) ⟨O,N,G⟩)):=by kernel_rfl
theorem ztM:(∃ (b1:Bool),(qq P (⟨O,N,G⟩) (BinOp.eql) (23) (true) (pp) (.nilp)=(some (.bool b1)))∧((b1)=true→(K (AM.mk (RF 85 10 (tX tZ (tY (.bool true))) [cdi 85 [1,1]]) rest ⟨O,N,G⟩)))∧((b1)=false→(K (AM.mk (enF 42 [pp]) ((zsK pp)::rest) ⟨O,N,G⟩))))=OT f0 R keep K (.ex fun b1:Bool=>(.seq [.run 7,.hop (.bool b1) O,.run 1] (.fork 5 (.seq [.run 7,.keep [2]] .fin) (.seq [.run 1,.keep [5,6],.run 1] .fin)))) ((AM.mk (enF 85 [pp]) rest ⟨O,N,G⟩)):=by kernel_rfl
theorem zmz:(K (AM.mk (RF 85 10 (tX tZ (tY (.bool !bv))) [cdi 85 [1,1]]) rest ⟨O,N,G⟩))=OT f0 R keep K (.seq [.run 6,.keep [2]] .fin) ((AM.mk (RF 42 95 (tX tZ (tY (.bool bv))) td) ((zsK pp)::rest) ⟨O,N,G⟩)):=by kernel_rfl
theorem zsy:((lC O N G p 0 (.int .i64 k))∧(((k==(9:Int)))=true→(K (AM.mk (RF 88 15 (tX tZ (tY (.bool true))) [cdi 88 [1,1]]) rest ⟨O,N,G⟩)))∧(((k==(9:Int)))=false→((lC O N G p 0 (.int .i64 k))∧K (AM.mk (RF 88 15 (tX tZ (tY (.bool (k==(1:Int))))) [cdi 88 [1,1]]) rest ⟨O,N,G⟩))))=OT f0 R keep K (.seq [.run 9,.hop (.int .i64 k) O,.run 2] (.fork 8 (.seq [.run 9,.keep [2]] .fin) (.seq [.run 3,.hop (.int .i64 k) O,.run 5,.keep [2]] .fin))) ((AM.mk (enF 88 [.ptr p 0 0]) rest ⟨O,N,G⟩)):=by kernel_rfl
theorem t_sta:(∃ (z1:Int),(lN O N G 33 sa z1)∧K (Wsta sa z1 0 rest O N G))=OT f0 R keep K (.ex fun z1:Int=>(.seq [.run 8,.hopn (.int .i64 z1) O (N),.run 4,.keep [1,7,8,9]] .fin)) ((AM.mk (enF 55 [sa,.fn (.func 85) [] []]) rest ⟨O,N,G⟩)):=by kernel_rfl
theorem zpG:(((decide (j<n))=true→(∃ (i1:Nat) (i2:Nat) (i3:Nat) (s1:AV),(iX 33 sa j i1 i2 i3)∧(lR O N G i1 i2 i3 s1)∧K (AM.mk (enF 85 [s1]) ((zo8 sa n j s1)::rest) ⟨O,N,G⟩)))∧((decide (j<n))=false→(K (AM.mk (RF 55 17 (tX tZ (tX (tY (.bool false)) tZ)) [cdi 55 [1,0,1,0,0,1,1,0,0,1,1,0,1]]) rest ⟨O,N,G⟩))))=OT f0 R keep K (.seq [.run 5] (.fork 10 (.ex fun i1:Nat=>(.ex fun i2:Nat=>(.ex fun i3:Nat=>(.ex fun s1:AV=>(.seq [.run 6,.hopn (.ptr i1 i2 i3) O (N),.hop (s1) O,.run 6,.keep [1,7,8,9,13,14],.run 1] .fin))))) (.seq [.run 7,.keep [4]] .fin))) ((Wsta sa n j rest O N G)):=by kernel_rfl
theorem zcI:(((bv)=true→(K (AM.mk (RF 55 17 (tX tZ (tX (tY (.bool true)) tZ)) [cdi 85 [1,1],.inBlock 1,cdi 55 [1,0,1,0,0,1,1,1],ili 55 [1,0,1,0,0],.inBlock 0,cdi 55 [1,1]]) rest ⟨O,N,G⟩)))∧((bv)=false→(K (Wsta sa n (IntKind.i64.wrap (j+(1:Int))) rest O N G))))=OT f0 R keep K (.seq [.run 2] (.fork 15 (.seq [.run 6,.keep [4]] .fin) (.seq [.run 8,.keep [1,7,8,9]] .fin))) ((AM.mk (RF 85 10 (tX tZ (tY (.bool bv))) td) ((zo8 sa n j s1c)::rest) ⟨O,N,G⟩)):=by kernel_rfl
theorem t_stb:(∃ (z1:Int),(lN O N G 33 sa z1)∧K (Wstb sa z1 0 rest O N G))=OT f0 R keep K (.ex fun z1:Int=>(.seq [.run 8,.hopn (.int .i64 z1) O (N),.run 4,.keep [1,7,8,9]] .fin)) ((AM.mk (enF 55 [sa,.fn (.func 88) [] []]) rest ⟨O,N,G⟩)):=by kernel_rfl
theorem zpj:(((decide (j<n))=true→(∃ (i1:Nat) (i2:Nat) (i3:Nat) (s1:AV),(iX 33 sa j i1 i2 i3)∧(lR O N G i1 i2 i3 s1)∧K (AM.mk (enF 88 [s1]) ((zof sa n j s1)::rest) ⟨O,N,G⟩)))∧((decide (j<n))=false→(K (AM.mk (RF 55 17 (tX tZ (tX (tY (.bool false)) tZ)) [cdi 55 [1,0,1,0,0,1,1,0,0,1,1,0,1]]) rest ⟨O,N,G⟩))))=OT f0 R keep K (.seq [.run 5] (.fork 10 (.ex fun i1:Nat=>(.ex fun i2:Nat=>(.ex fun i3:Nat=>(.ex fun s1:AV=>(.seq [.run 6,.hopn (.ptr i1 i2 i3) O (N),.hop (s1) O,.run 6,.keep [1,7,8,9,13,14],.run 1] .fin))))) (.seq [.run 7,.keep [4]] .fin))) ((Wstb sa n j rest O N G)):=by kernel_rfl
theorem zdb:(((bv)=true→(K (AM.mk (RF 55 17 (tX tZ (tX (tY (.bool true)) tZ)) [cdi 88 [1,1],.inBlock 1,cdi 55 [1,0,1,0,0,1,1,1],ili 55 [1,0,1,0,0],.inBlock 0,cdi 55 [1,1]]) rest ⟨O,N,G⟩)))∧((bv)=false→(K (Wstb sa n (IntKind.i64.wrap (j+(1:Int))) rest O N G))))=OT f0 R keep K (.seq [.run 2] (.fork 15 (.seq [.run 6,.keep [4]] .fin) (.seq [.run 8,.keep [1,7,8,9]] .fin))) ((AM.mk (RF 88 15 (tX tZ (tY (.bool bv))) td) ((zof sa n j s1c)::rest) ⟨O,N,G⟩)):=by kernel_rfl
end
variable {O O':T AObj} {N:Nat} {G:T (T AV)}
theorem zt1 {r:Ty}{q:Option Nat}{hi:Nat}(h:Tr O hi r q)(N:Nat):qq P ⟨O,N,G⟩ BinOp.eql 23 true (pv q) .nilp=some (.bool (isNo r)):=by
 cases h with
 | no=>rfl
 | mk=>rfl
theorem zsN {ts:List Ty}{ps:List (Option Nat)}{sa:AV}{hi:Nat}(hs:SV O 1 pE 0 hi ps sa)(hl:ps.length=ts.length)(hm:ts.length<1000000)(ht:∀ (j:Nat) (x:Ty) (p:Option Nat),ts[j]?=some x→ps[j]?=some p→Tr O hi x p)(ho:∀ x∈ts,okT x=true∧cnt x≤60)(hN:hi≤N){keep:Nat}{f0:FuncId}{Q:AV→AHeap→Prop}{rest:List AFrame}
 (hK:∀ O' N' td s,Ext O N O' N'→GV O' 9 1 sE N N' (ts.map wr) s→Goal P keep f0 Q (AM.mk (RF 89 19 (tX tZ (tY s)) td) rest ⟨O',N',G⟩)):Goal P keep f0 Q (AM.mk (enF 89 [sa]) rest ⟨O,N,G⟩):=by
 have loop:∀ (k' i:Nat) (O2:T AObj) (N2:Nat) (s:AV),i+k'=ts.length→Ext O N O2 N2→GV O2 9 1 sE N N2 ((ts.take i).map wr) s→Goal P keep f0 Q (Wtxs sa ((ts.length:Nat):Int) ((i:Nat):Int) s rest O2 N2 G):=by
  intro k'
  induction k' with
  | zero =>
   intro i O2 N2 s hk ex g;rw [List.take_of_length_le (by omega)] at g;exact (ot (zpz (n:=((ts.length:Nat):Int)) (j:=((i:Nat):Int))) (fkf (decide_eq_false (by omega)) (hK O2 N2 _ s ex g)))
  | succ k' ih =>
   intro i O2 N2 s hk ex g;have exle:=ex.1;have sO2:=hs.keep (O':=O2) (fun j _ hj=>ex.2 j (by omega)) (Nat.le_refl 0) (Nat.le_refl hi);obtain ⟨x,hx,hxm⟩:=nth (l:=ts) (j:=i) (by omega);obtain ⟨y,hy',_⟩:=nth (l:=ps) (j:=i) (by omega);obtain ⟨i1,i2,i3,lo1,hi1,eA,rd,_⟩:=sO2.at pSl pEn hy';refine (ot (zpz (n:=((ts.length:Nat):Int)) (j:=((i:Nat):Int))) (fkt (decide_eq_true (by omega)) ⟨_,_,_,(pv y),eA,rd.load rfl _ _,?_⟩));refine zgY (ho x hxm).1 (ho x hxm).2 keep f0 Q hi y _ O2 N2 ((ht i x y hx hy').same (fun j hj=>ex.2 j (by omega)) (Nat.le_refl _)) (by omega) fun O3 N3 td ex3=>?_;have n3:=ex3.1;obtain ⟨O4,e4,sv4,gv4,f4⟩:=kU sEn (wr x) O3 N3 G (st:=32) (el:=9) (v:=.str (wr x)) (fun h=>by kernel_rfl);have g3:=g.keep (O':=O4) (fun j h1 h2=>(f4 j (by omega)).trans (ex3.2 j h2)) (Nat.le_refl N) (show N2≤N3+1 by omega);obtain ⟨O5,N5,s5,e5,g5,n5,n5',fr5,_⟩:=g3.app sSl sEn sv4 (by omega) (by rw [List.length_map,List.length_take]; simp only [List.length_cons,List.length_nil]; omega) G;have ex5:Ext O N O5 N5:=⟨by omega,fun j hj=>(fr5 j (by omega) (fun hne=>by have:=(g3.sid_lt hne).1; omega)).trans ((f4 j (by omega)).trans ((ex3.2 j (by omega)).trans (ex.2 j hj)))⟩;have g6:GV O5 9 1 sE N N5 ((ts.take (i+1)).map wr) s5:=by
    rw [List.take_add_one,hx,List.map_append];exact g5
   have nx:=ih (i+1) O5 N5 s5 (by omega) ex5 g6;rw [← zq (i:=i) (by omega)] at nx;exact (ot (zjh (n:=((ts.length:Nat):Int)) (j:=((i:Nat):Int)) (s1c:=(pv y)) (wa:=(wr x))) ⟨O4,s5,O5,N5,e4,e5,nx⟩)
 refine (ot t_txs ⟨((ts.length:Nat):Int),by rw [← hl]; exact hs.len pSl _ _,?_⟩);exact loop ts.length 0 O N (.nils 0 0) (Nat.zero_add _) Ext.refl GV.nil
def FC (G:T (T AV)) (t:Ty):Prop:=∀ (keep:Nat) (f0:FuncId) (Q:AV→AHeap→Prop) (hi:Nat) (p:Option Nat) (rest:List AFrame) (O:T AObj) (N:Nat),Tr O hi t p→hi≤N →
 (∀ O' N' td,Ext O N O' N'→Goal P keep f0 Q (AM.mk (RF 42 95 (tX tZ (tY (.bool (okT t)))) td) rest ⟨O',N',G⟩))→Goal P keep f0 Q (AM.mk (enF 42 [pv p]) rest ⟨O,N,G⟩)
theorem zpB {x:Ty}{y:Option Nat}{hi:Nat}(F:isNo x=false→FC G x)(ht:Tr O hi x y)(hN:hi≤N){keep:Nat}{f0:FuncId}{Q:AV→AHeap→Prop}{rest:List AFrame}
 (hK:∀ O' N' td,Ext O N O' N'→Goal P keep f0 Q (AM.mk (RF 85 10 (tX tZ (tY (.bool (!okT x)))) td) rest ⟨O',N',G⟩)):Goal P keep f0 Q (AM.mk (enF 85 [pv y]) rest ⟨O,N,G⟩):=by
 rcases Bool.eq_false_or_eq_true (isNo x) with h | h
 ·rw [show okT x=false from by cases x with
   | no=>exact xX
   | mk=>cases h] at hK
  exact (ot (ztM (pp:=(pv y))) ⟨(isNo x),zt1 ht _,fkt h (hK O N _ Ext.refl)⟩)
 ·refine (ot (ztM (pp:=(pv y))) ⟨(isNo x),zt1 ht _,fkf h ?_⟩);refine F h keep f0 Q hi y _ O N ht hN fun O' N' td ex=>?_;exact (ot (zmz (bv:=(okT x)) (pp:=(pv y))) (hK O' N' _ ex))
theorem zsP {ts:List Ty}{ps:List (Option Nat)}{sa:AV}{hi:Nat}(hs:SV O 1 pE 0 hi ps sa)(hl:ps.length=ts.length)(hm:ts.length<1000000)(ht:∀ (j:Nat) (x:Ty) (p:Option Nat),ts[j]?=some x→ps[j]?=some p→Tr O hi x p)(F:∀ x∈ts,isNo x=false→FC G x)(hN:hi≤N){keep:Nat}{f0:FuncId}{Q:AV→AHeap→Prop}{rest:List AFrame}
 (hK:∀ O' N' td,Ext O N O' N'→Goal P keep f0 Q (AM.mk (RF 55 17 (tX tZ (tX (tY (.bool (ts.any (fun x=>!okT x)))) tZ)) td) rest ⟨O',N',G⟩)):Goal P keep f0 Q (AM.mk (enF 55 [sa,.fn (.func 85) [] []]) rest ⟨O,N,G⟩):=by
 have loop:∀ (k' i:Nat) (O2:T AObj) (N2:Nat),i+k'=ts.length→Ext O N O2 N2→ts.any (fun x=>!okT x)=(ts.drop i).any (fun x=>!okT x)→Goal P keep f0 Q (Wsta sa ((ts.length:Nat):Int) ((i:Nat):Int) rest O2 N2 G):=by
  intro k'
  induction k' with
  | zero =>
   intro i O2 N2 hk ex hv;rw [hv,List.drop_of_length_le (by omega)] at hK;exact (ot (zpG (n:=((ts.length:Nat):Int)) (j:=((i:Nat):Int))) (fkf (decide_eq_false (by omega)) (hK O2 N2 _ ex)))
  | succ k' ih =>
   intro i O2 N2 hk ex hv;have exle:=ex.1;have sO2:=hs.keep (O':=O2) (fun j _ hj=>ex.2 j (by omega)) (Nat.le_refl 0) (Nat.le_refl hi);obtain ⟨x,hx,hxm⟩:=nth (l:=ts) (j:=i) (by omega);obtain ⟨y,hy',_⟩:=nth (l:=ps) (j:=i) (by omega);obtain ⟨i1,i2,i3,lo1,hi1,eA,rd,_⟩:=sO2.at pSl pEn hy';rw [zr hx,List.any_cons] at hv;have tx:=(ht i x y hx hy').same (O':=O2) (fun j hj=>ex.2 j (by omega)) (Nat.le_refl _);refine (ot (zpG (n:=((ts.length:Nat):Int)) (j:=((i:Nat):Int))) (fkt (decide_eq_true (by omega)) ⟨_,_,_,(pv y),eA,rd.load rfl _ _,?_⟩));refine zpB (F x hxm) tx (by omega) fun O3 N3 td ex3=>?_;rcases Bool.eq_false_or_eq_true (!okT x) with hb | hb
   ·rw [hb,Bool.true_or] at hv;rw [hv] at hK;exact (ot (zcI (n:=((ts.length:Nat):Int)) (j:=((i:Nat):Int)) (bv:=(!okT x)) (s1c:=(pv y))) (fkt hb (hK O3 N3 _ (ex.trans ex3))))
   ·rw [hb,Bool.false_or] at hv;have nx:=ih (i+1) O3 N3 (by omega) (ex.trans ex3) hv;rw [← zq (i:=i) (by omega)] at nx;exact (ot (zcI (n:=((ts.length:Nat):Int)) (j:=((i:Nat):Int)) (bv:=(!okT x)) (s1c:=(pv y))) (fkf hb nx))
 refine (ot t_sta ⟨((ts.length:Nat):Int),by rw [← hl]; exact hs.len pSl _ _,?_⟩);exact loop ts.length 0 O N (Nat.zero_add _) Ext.refl (by rw [List.drop_zero])
theorem zrX {x:Ty}{y:Option Nat}{hi:Nat}(ho:okT x=true)(ht:Tr O hi x y){keep:Nat}{f0:FuncId}{Q:AV→AHeap→Prop}{rest:List AFrame}
 (hK:∀ td,Goal P keep f0 Q (AM.mk (RF 88 15 (tX tZ (tY (.bool (kd x==9 || kd x==1)))) td) rest ⟨O,N,G⟩)):Goal P keep f0 Q (AM.mk (enF 88 [pv y]) rest ⟨O,N,G⟩):=by
 cases x with
 | no=>rw [xX] at ho; cases ho
 | mk k nm ns ts r =>
  obtain ⟨id,sn,sa,ps,q,rfl,i1',i2',_⟩:=ht.inv;have hK:∀ td,Goal P keep f0 Q (AM.mk (RF 88 15 (tX tZ (tY (.bool (k==9 || k==1)))) td) rest ⟨O,N,G⟩):=hK;rcases Bool.eq_false_or_eq_true (k==9) with h | h
  ·rw [h,Bool.true_or] at hK;exact (ot (zsy (k:=k)) ⟨i2'.ld 0 rfl,fkt h (hK _)⟩)
  ·rw [h,Bool.false_or] at hK;exact (ot (zsy (k:=k)) ⟨i2'.ld 0 rfl,fkf h ⟨i2'.ld 0 rfl,hK _⟩⟩)
theorem zsz {ts:List Ty}{ps:List (Option Nat)}{sa:AV}{hi:Nat}(hs:SV O 1 pE 0 hi ps sa)(hl:ps.length=ts.length)(hm:ts.length<1000000)(ht:∀ (j:Nat) (x:Ty) (p:Option Nat),ts[j]?=some x→ps[j]?=some p→Tr O hi x p)(ho:∀ x∈ts,okT x=true)(hN:hi≤N){keep:Nat}{f0:FuncId}{Q:AV→AHeap→Prop}{rest:List AFrame}
 (hK:∀ O' N' td,Ext O N O' N'→Goal P keep f0 Q (AM.mk (RF 55 17 (tX tZ (tX (tY (.bool (ts.any (fun x=>kd x==9 || kd x==1)))) tZ)) td) rest ⟨O',N',G⟩)):Goal P keep f0 Q (AM.mk (enF 55 [sa,.fn (.func 88) [] []]) rest ⟨O,N,G⟩):=by
 have loop:∀ (k' i:Nat) (O2:T AObj) (N2:Nat),i+k'=ts.length→Ext O N O2 N2→ts.any (fun x=>kd x==9 || kd x==1)=(ts.drop i).any (fun x=>kd x==9 || kd x==1)→Goal P keep f0 Q (Wstb sa ((ts.length:Nat):Int) ((i:Nat):Int) rest O2 N2 G):=by
  intro k'
  induction k' with
  | zero =>
   intro i O2 N2 hk ex hv;rw [hv,List.drop_of_length_le (by omega)] at hK;exact (ot (zpj (n:=((ts.length:Nat):Int)) (j:=((i:Nat):Int))) (fkf (decide_eq_false (by omega)) (hK O2 N2 _ ex)))
  | succ k' ih =>
   intro i O2 N2 hk ex hv;have exle:=ex.1;have sO2:=hs.keep (O':=O2) (fun j _ hj=>ex.2 j (by omega)) (Nat.le_refl 0) (Nat.le_refl hi);obtain ⟨x,hx,hxm⟩:=nth (l:=ts) (j:=i) (by omega);obtain ⟨y,hy',_⟩:=nth (l:=ps) (j:=i) (by omega);obtain ⟨i1,i2,i3,lo1,hi1,eA,rd,_⟩:=sO2.at pSl pEn hy';rw [zr hx,List.any_cons] at hv;have tx:=(ht i x y hx hy').same (O':=O2) (fun j hj=>ex.2 j (by omega)) (Nat.le_refl _);refine (ot (zpj (n:=((ts.length:Nat):Int)) (j:=((i:Nat):Int))) (fkt (decide_eq_true (by omega)) ⟨_,_,_,(pv y),eA,rd.load rfl _ _,?_⟩));refine zrX (ho x hxm) tx fun td=>?_;have ex3:Ext O2 N2 O2 N2:=Ext.refl;obtain ⟨O3,hO3⟩:∃ O3,O3=O2:=⟨_,rfl⟩;obtain ⟨N3,hN3⟩:∃ N3,N3=N2:=⟨_,rfl⟩;rw [← hO3,← hN3] at ex3 ⊢;subst hO3;subst hN3;rcases Bool.eq_false_or_eq_true (kd x==9 || kd x==1) with hb | hb
   ·rw [hb,Bool.true_or] at hv;rw [hv] at hK;exact (ot (zdb (n:=((ts.length:Nat):Int)) (j:=((i:Nat):Int)) (bv:=(kd x==9 || kd x==1)) (s1c:=(pv y))) (fkt hb (hK O3 N3 _ (ex.trans ex3))))
   ·rw [hb,Bool.false_or] at hv;have nx:=ih (i+1) O3 N3 (by omega) (ex.trans ex3) hv;rw [← zq (i:=i) (by omega)] at nx;exact (ot (zdb (n:=((ts.length:Nat):Int)) (j:=((i:Nat):Int)) (bv:=(kd x==9 || kd x==1)) (s1c:=(pv y))) (fkf hb nx))
 refine (ot t_stb ⟨((ts.length:Nat):Int),by rw [← hl]; exact hs.len pSl _ _,?_⟩);exact loop ts.length 0 O N (Nat.zero_add _) Ext.refl (by rw [List.drop_zero])
end Go.Proofs.Ytcdigdplhlgcaaa.gx
end
