import Derived.Test.YtcdigdplhlgcaaaA00
import Derived.Test.YtcdigdplhlgcaaaA01
import Derived.Test.YtcdigdplhlgcaaaA02
import Derived.Test.YtcdigdplhlgcaaaA03
import Derived.Test.YtcdigdplhlgcaaaA04
import Derived.Test.YtcdigdplhlgcaaaA05
import Derived.Test.YtcdigdplhlgcaaaA06
section
set_option maxRecDepth 100000
set_option linter.unusedVariables false
set_option linter.unusedSectionVars false
set_option linter.unusedSimpArgs false
namespace Go.Proofs.Ytcdigdplhlgcaaa.gx
open Go Ev tp
variable {O O':T AObj} {N:Nat} {G:T (T AV)}
theorem zlJ {hi:Nat}{sn2:AV}{nsb:List (List UInt8)}(hs:SV O 1 sE 0 hi nsb sn2)(hm:nsb.length<1000000)(hiN:hi≤N){O1':T AObj}(q2:∀ j,j<N→O1'.get j=O.get j){pre:List (Nat × List Nat)}(hpre:pre.length≤1){M:Nat}(hM:N+3≤M){keep:Nat}{f0:FuncId}{Q:AV→AHeap→Prop}{rest:List AFrame}
 (hK:∀ (O2:T AObj) (N2:Nat) (s:AV) (bs:List (Nat × Nat)),M≤N2→(∀ j,j<N+3→O2.get j=O1'.get j)→bs.length=nsb.length→GV O2 30 1 clE (N+3) N2 (pre++bs.map (fun b=>(130,[N+1,b.2,N,N+2,b.1]))) s →
  (∀ (j:Nat) (b:Nat × Nat) (y:List UInt8),bs[j]?=some b→nsb[j]?=some y→N+3≤b.1∧b.1<N2∧Obj O2 b.1 [.int .i64 ((j:Nat):Int)]∧N+3≤b.2∧b.2<N2∧Obj O2 b.2 [.str y])→(∀ b,b∈bs→s≠.nils 0 0→b.1≠sid s∧b.2≠sid s)→∀ i,i=nsb.length→Goal P keep f0 Q (zpX sn2 ((nsb.length:Nat):Int) ((i:Nat):Int) N (N+1) (N+2) s rest O2 N2 G)) :
 ∀ (k' i:Nat) (O2:T AObj) (N2:Nat) (s:AV) (bs:List (Nat × Nat)),i+k'=nsb.length→M≤N2→(∀ j,j<N+3→O2.get j=O1'.get j)→bs.length=i→GV O2 30 1 clE (N+3) N2 (pre++bs.map (fun b=>(130,[N+1,b.2,N,N+2,b.1]))) s →
  (∀ (j:Nat) (b:Nat × Nat) (y:List UInt8),bs[j]?=some b→nsb[j]?=some y→N+3≤b.1∧b.1<N2∧Obj O2 b.1 [.int .i64 ((j:Nat):Int)]∧N+3≤b.2∧b.2<N2∧Obj O2 b.2 [.str y])→(∀ b,b∈bs→s≠.nils 0 0→b.1≠sid s∧b.2≠sid s)→Goal P keep f0 Q (zpX sn2 ((nsb.length:Nat):Int) ((i:Nat):Int) N (N+1) (N+2) s rest O2 N2 G):=by
 intro k'
 induction k' with
 | zero =>
  intro i O2 N2 s bs hk hn fr hbl g hb hne
  exact hK O2 N2 s bs hn fr (by omega) g hb hne i (by omega)
 | succ k' ih =>
  intro i O2 N2 s bs hk hn fr hbl g hb hne
  obtain ⟨y,hy,_⟩:=nth (l:=nsb) (j:=i) (by omega)
  have s2:=hs.keep (O':=O2) (fun j _ hj=>(fr j (by omega)).trans (q2 j (by omega))) (Nat.le_refl 0) (Nat.le_refl hi)
  obtain ⟨i1,i2,i3,lo1,hi1,eA,rd,_⟩:=s2.at sSl sEn hy
  obtain ⟨O3,e3,b3,f3⟩:=Obj.mk (c:=(tY (.int .i64 0))) (el:=3) [.int .i64 0] O2 N2 1 rfl (fun u hu=>by rcases u with _ | u <;> first | rfl | omega)
  obtain ⟨O3b,e3b,b3b,f3b⟩:=Obj.mk (c:=(tY (.str []))) (el:=9) [.str []] O3 (N2+1) 1 rfl (fun u hu=>by rcases u with _ | u <;> first | rfl | omega)
  obtain ⟨O3c,s3c,b3c,f3c⟩:=(b3.same (f3b N2 (by omega))).store 0 [.int .i64 ((i:Nat):Int)] (N2+2) G (Nat.le_of_ble_eq_true rfl) rfl
  obtain ⟨O4,s4,b4,f4⟩:=(b3b.same (f3c (N2+1) (by omega))).store 0 [.str y] (N2+2) G (Nat.le_of_ble_eq_true rfl) rfl
  obtain ⟨O5,e5,sv5,gv5,f5⟩:=wg ke (130,[N+1,N2+1,N,N+2,N2]) O4 (N2+2) G (st:=131) (el:=30) (v:=.fn (Fn.func 130) [] [.ptr (N+1) 0 0,.ptr (N2+1) 0 0,.ptr N 0 0,.ptr (N+2) 0 0,.ptr N2 0 0]) (fun h=>by kernel_rfl)
  have old:∀ j,j<N2→O5.get j=O2.get j:=fun j hj=>(f5 j (by omega)).trans ((f4 j (by omega)).trans ((f3c j (by omega)).trans ((f3b j (by omega)).trans (f3 j (by omega)))))
  have g5:GV O5 30 1 clE (N+3) (N2+3) (pre++bs.map (fun b=>(130,[N+1,b.2,N,N+2,b.1]))) s:=g.keep (fun j h1 h2=>old j h2) (Nat.le_refl _) (by omega)
  obtain ⟨O6,N6,s6,e6,g6,n6,n6',fr6,sd6⟩:=g5.app zjh ke sv5 (by omega) (by rw [List.length_append,List.length_map]; simp only [List.length_cons,List.length_nil]; omega) G
  have nx:=ih (i+1) O6 N6 s6 (bs++[(N2,N2+1)]) (by omega) (by omega) (fun j hj=>(fr6 j (by omega) (fun hne'=>by have:=(g.sid_lt hne').1; omega)).trans ((old j (by omega)).trans (fr j hj))) (by rw [List.length_append]; simp; omega) (by rw [List.map_append,← List.append_assoc]; exact g6) (fun j b y' hb1 hy1=>?_) (fun b hb1 hne1=>?_)
  · rw [← zC (i:=i) (by omega)] at nx
    exact (ot (znG (n:=((nsb.length:Nat):Int)) (j:=((i:Nat):Int)) (cb:=(N+1)) (cc_:=(N+2))) (fkt (decide_eq_true (by omega)) ⟨_,_,_,y,O3,O3b,O3c,O4,O5,s6,O6,N6,eA,rd.load rfl _ _,e3,e3b,s3c,s4,e5,e6,nx⟩))
  · by_cases hj:j<bs.length
    · rw [List.getElem?_append_left hj] at hb1
      obtain ⟨c1,c2,c3,c4,c5,c6⟩:=hb j b y' hb1 hy1
      have hbm:b∈bs:=List.mem_of_getElem? hb1
      exact ⟨c1,by omega,c3.same ((fr6 b.1 (by omega) (fun hne'=>(hne b hbm hne').1)).trans (old b.1 c2)),c4,by omega,c6.same ((fr6 b.2 (by omega) (fun hne'=>(hne b hbm hne').2)).trans (old b.2 c5))⟩
    · have hjl:j=bs.length:=by
       have:=(List.getElem?_eq_some_iff.1 hb1).1
       rw [List.length_append] at this
       simp at this
       omega
      rw [List.getElem?_append_right (by omega),hjl,Nat.sub_self] at hb1
      cases hb1
      rw [hjl,hbl,hy] at hy1
      cases hy1
      have o1:=b3c.same (f4 N2 (by omega))
      exact ⟨by show N+3≤N2; omega,by show N2<N6; omega,by rw [hjl,hbl]; exact o1.same ((fr6 N2 (by omega) (fun hne'=>by have:=(g.sid_lt hne').2; omega)).trans (f5 N2 (by omega))),by show N+3≤N2+1; omega,by show N2+1<N6; omega,b4.same ((fr6 (N2+1) (by omega) (fun hne'=>by have:=(g.sid_lt hne').2; omega)).trans (f5 (N2+1) (by omega)))⟩
  · rcases sd6 with h | h | ⟨h,h'⟩
    · exact absurd h hne1
    · rcases List.mem_append.1 hb1 with hm1 | hm1
      · obtain ⟨jj,hjj⟩:=List.mem_iff_getElem?.1 hm1
        obtain ⟨yy,hyy,_⟩:=nth (l:=nsb) (j:=jj) (by have:=(List.getElem?_eq_some_iff.1 hjj).1; omega)
        have:=hb jj b yy hjj hyy
        omega
      · simp at hm1
        subst hm1
        exact ⟨by show N2≠_; omega,by show N2+1≠_; omega⟩
    · rcases List.mem_append.1 hb1 with hm1 | hm1
      · rw [h']
        exact hne b hm1 h
      · simp at hm1
        subst hm1
        have:=(g.sid_lt h).2
        rw [h']
        exact ⟨by show N2≠_; omega,by show N2+1≠_; omega⟩
theorem zmy {hi:Nat}{sa2:AV}{ps2:List (Option Nat)}(hs:SV O 1 pE 0 hi ps2 sa2)(hm:ps2.length<1000000)(hiN:hi≤N){O1':T AObj}(q2:∀ j,j<N→O1'.get j=O.get j){pre:List (Nat × List Nat)}(hpre:pre.length≤1){M:Nat}(hM:N+3≤M){keep:Nat}{f0:FuncId}{Q:AV→AHeap→Prop}{rest:List AFrame}
 (hK:∀ (O2:T AObj) (N2:Nat) (s:AV) (bs:List (Nat × Nat)),M≤N2→(∀ j,j<N+3→O2.get j=O1'.get j)→bs.length=ps2.length→GV O2 30 1 clE (N+3) N2 (pre++bs.map (fun b=>(133,[N,b.2,N+1,b.1]))) s →
  (∀ (j:Nat) (b:Nat × Nat) (y:Option Nat),bs[j]?=some b→ps2[j]?=some y→N+3≤b.1∧b.1<N2∧Obj O2 b.1 [.int .i64 ((j:Nat):Int)]∧N+3≤b.2∧b.2<N2∧Obj O2 b.2 [pv y])→(∀ b,b∈bs→s≠.nils 0 0→b.1≠sid s∧b.2≠sid s)→∀ i,i=ps2.length→Goal P keep f0 Q (zqD sa2 ((ps2.length:Nat):Int) ((i:Nat):Int) N (N+1) (N+2) s rest O2 N2 G)) :
 ∀ (k' i:Nat) (O2:T AObj) (N2:Nat) (s:AV) (bs:List (Nat × Nat)),i+k'=ps2.length→M≤N2→(∀ j,j<N+3→O2.get j=O1'.get j)→bs.length=i→GV O2 30 1 clE (N+3) N2 (pre++bs.map (fun b=>(133,[N,b.2,N+1,b.1]))) s →
  (∀ (j:Nat) (b:Nat × Nat) (y:Option Nat),bs[j]?=some b→ps2[j]?=some y→N+3≤b.1∧b.1<N2∧Obj O2 b.1 [.int .i64 ((j:Nat):Int)]∧N+3≤b.2∧b.2<N2∧Obj O2 b.2 [pv y])→(∀ b,b∈bs→s≠.nils 0 0→b.1≠sid s∧b.2≠sid s)→Goal P keep f0 Q (zqD sa2 ((ps2.length:Nat):Int) ((i:Nat):Int) N (N+1) (N+2) s rest O2 N2 G):=by
 intro k'
 induction k' with
 | zero =>
  intro i O2 N2 s bs hk hn fr hbl g hb hne
  exact hK O2 N2 s bs hn fr (by omega) g hb hne i (by omega)
 | succ k' ih =>
  intro i O2 N2 s bs hk hn fr hbl g hb hne
  obtain ⟨y,hy,_⟩:=nth (l:=ps2) (j:=i) (by omega)
  have s2:=hs.keep (O':=O2) (fun j _ hj=>(fr j (by omega)).trans (q2 j (by omega))) (Nat.le_refl 0) (Nat.le_refl hi)
  obtain ⟨i1,i2,i3,lo1,hi1,eA,rd,_⟩:=s2.at pSl pEn hy
  obtain ⟨O3,e3,b3,f3⟩:=Obj.mk (c:=(tY (.int .i64 0))) (el:=3) [.int .i64 0] O2 N2 1 rfl (fun u hu=>by rcases u with _ | u <;> first | rfl | omega)
  obtain ⟨O3b,e3b,b3b,f3b⟩:=Obj.mk (c:=(tY .nilp)) (el:=23) [.nilp] O3 (N2+1) 1 rfl (fun u hu=>by rcases u with _ | u <;> first | rfl | omega)
  obtain ⟨O3c,s3c,b3c,f3c⟩:=(b3.same (f3b N2 (by omega))).store 0 [.int .i64 ((i:Nat):Int)] (N2+2) G (Nat.le_of_ble_eq_true rfl) rfl
  obtain ⟨O4,s4,b4,f4⟩:=(b3b.same (f3c (N2+1) (by omega))).store 0 [pv y] (N2+2) G (Nat.le_of_ble_eq_true rfl) (by cases y <;> rfl)
  obtain ⟨O5,e5,sv5,gv5,f5⟩:=wg ke (133,[N,N2+1,N+1,N2]) O4 (N2+2) G (st:=131) (el:=30) (v:=.fn (Fn.func 133) [] [.ptr N 0 0,.ptr (N2+1) 0 0,.ptr (N+1) 0 0,.ptr N2 0 0]) (fun h=>by kernel_rfl)
  have old:∀ j,j<N2→O5.get j=O2.get j:=fun j hj=>(f5 j (by omega)).trans ((f4 j (by omega)).trans ((f3c j (by omega)).trans ((f3b j (by omega)).trans (f3 j (by omega)))))
  have g5:GV O5 30 1 clE (N+3) (N2+3) (pre++bs.map (fun b=>(133,[N,b.2,N+1,b.1]))) s:=g.keep (fun j h1 h2=>old j h2) (Nat.le_refl _) (by omega)
  obtain ⟨O6,N6,s6,e6,g6,n6,n6',fr6,sd6⟩:=g5.app zjh ke sv5 (by omega) (by rw [List.length_append,List.length_map]; simp only [List.length_cons,List.length_nil]; omega) G
  have pcs:(pv y).cells=[pv y]:=by cases y <;> rfl
  have nx:=ih (i+1) O6 N6 s6 (bs++[(N2,N2+1)]) (by omega) (by omega) (fun j hj=>(fr6 j (by omega) (fun hne'=>by have:=(g.sid_lt hne').1; omega)).trans ((old j (by omega)).trans (fr j hj))) (by rw [List.length_append]; simp; omega) (by rw [List.map_append,← List.append_assoc]; exact g6) (fun j b y' hb1 hy1=>?_) (fun b hb1 hne1=>?_)
  · rw [← zC (i:=i) (by omega)] at nx
    exact (ot (zn2 (n:=((ps2.length:Nat):Int)) (j:=((i:Nat):Int)) (cb:=(N+1)) (cc_:=(N+2))) (fkt (decide_eq_true (by omega)) ⟨_,_,_,(pv y),O3,O3b,O3c,O4,O5,s6,O6,N6,eA,rd.load rfl _ _,e3,e3b,s3c,⟨by rw [pcs]; rfl,by rw [pcs]; exact s4⟩,e5,e6,nx⟩))
  · by_cases hj:j<bs.length
    · rw [List.getElem?_append_left hj] at hb1
      obtain ⟨c1,c2,c3,c4,c5,c6⟩:=hb j b y' hb1 hy1
      have hbm:b∈bs:=List.mem_of_getElem? hb1
      exact ⟨c1,by omega,c3.same ((fr6 b.1 (by omega) (fun hne'=>(hne b hbm hne').1)).trans (old b.1 c2)),c4,by omega,c6.same ((fr6 b.2 (by omega) (fun hne'=>(hne b hbm hne').2)).trans (old b.2 c5))⟩
    · have hjl:j=bs.length:=by
       have:=(List.getElem?_eq_some_iff.1 hb1).1
       rw [List.length_append] at this
       simp at this
       omega
      rw [List.getElem?_append_right (by omega),hjl,Nat.sub_self] at hb1
      cases hb1
      rw [hjl,hbl,hy] at hy1
      cases hy1
      have o1:=b3c.same (f4 N2 (by omega))
      exact ⟨by show N+3≤N2; omega,by show N2<N6; omega,by rw [hjl,hbl]; exact o1.same ((fr6 N2 (by omega) (fun hne'=>by have:=(g.sid_lt hne').2; omega)).trans (f5 N2 (by omega))),by show N+3≤N2+1; omega,by show N2+1<N6; omega,b4.same ((fr6 (N2+1) (by omega) (fun hne'=>by have:=(g.sid_lt hne').2; omega)).trans (f5 (N2+1) (by omega)))⟩
  · rcases sd6 with h | h | ⟨h,h'⟩
    · exact absurd h hne1
    · rcases List.mem_append.1 hb1 with hm1 | hm1
      · obtain ⟨jj,hjj⟩:=List.mem_iff_getElem?.1 hm1
        obtain ⟨yy,hyy,_⟩:=nth (l:=ps2) (j:=jj) (by have:=(List.getElem?_eq_some_iff.1 hjj).1; omega)
        have:=hb jj b yy hjj hyy
        omega
      · simp at hm1
        subst hm1
        exact ⟨by show N2≠_; omega,by show N2+1≠_; omega⟩
    · rcases List.mem_append.1 hb1 with hm1 | hm1
      · rw [h']
        exact hne b hm1 h
      · simp at hm1
        subst hm1
        have:=(g.sid_lt h).2
        rw [h']
        exact ⟨by show N2≠_; omega,by show N2+1≠_; omega⟩
end Go.Proofs.Ytcdigdplhlgcaaa.gx
end
section
set_option maxRecDepth 100000
set_option linter.unusedVariables false
set_option linter.unusedSectionVars false
set_option linter.unusedSimpArgs false
namespace Go.Proofs.Ytcdigdplhlgcaaa.gx
open Go Ev tp
section
variable (p q lk:Nat)
noncomputable def zju:AFrame:=⟨75,91,(tX (tX (tX tZ (tX (tX (tX (tY (.ptr p 0 0)) tZ) tZ) tZ)) tZ) (tX (tX tZ (tX (tX (tX (tY (.ptr q 0 0)) tZ) tZ) tZ)) (tX (tX (tX (tX (tY (.ptr lk 0 0)) tZ) tZ) tZ) tZ))),   [.ops (rg P 75 [1,1,0,0,0,0,0,0,0,0,0,0,0,0,1,0,0]).toList ((rg P 75 [1,1,0,0,0,0,0,0,0,0,0,0,0,0,1,0,0]).toList.drop 3),.code (cd P 75 [1,1,0,0,0,0,0,0,0,0,0,0,0,0,0,0,1,0,1]),.code (cd P 75 [1,1,0,0,0,0,0,0,0,0,0,0,0,0,0,0,0,0,0,1]),.inBlock 4,.code (cd P 75 [1,1,0,0,0,0,0,0,0,0,0,0,1]),.inBlock 5,.code (cd P 75 [1,1,0,0,0,0,0,0,0,0,1]),.inBlock 6,.code (cd P 75 [1,1,0,0,0,0,0,0,1]),.inBlock 7,.code (cd P 75 [1,1,0,0,0,0,1]),.inBlock 8,.code (cd P 75 [1,1,0,0,1]),.inBlock 0,.code (cd P 75 [1,1,1])],[],.run,CallKind.normal,none⟩
noncomputable def zgU:AFrame:=⟨75,91,(tX (tX (tX (tX tZ (tX (tX (tY (.ptr p 0 0)) tZ) tZ)) tZ) tZ) (tX (tX (tX tZ (tX (tX (tY (.ptr q 0 0)) tZ) tZ)) tZ) (tX tZ (tX (tX (tX (tY (.ptr lk 0 0)) tZ) tZ) tZ)))),   [.ops (rg P 75 [1,1,0,0,0,0,0,0,0,0,0,0,1,0,0]).toList ((rg P 75 [1,1,0,0,0,0,0,0,0,0,0,0,1,0,0]).toList.drop 3),.code (cd P 75 [1,1,0,0,0,0,0,0,0,0,0,0,0,0,0,0,1,0,1]),.code (cd P 75 [1,1,0,0,0,0,0,0,0,0,0,0,0,0,0,0,0,0,0,1]),.inBlock 5,.code (cd P 75 [1,1,0,0,0,0,0,0,0,0,1]),.inBlock 6,.code (cd P 75 [1,1,0,0,0,0,0,0,1]),.inBlock 7,.code (cd P 75 [1,1,0,0,0,0,1]),.inBlock 8,.code (cd P 75 [1,1,0,0,1]),.inBlock 0,.code (cd P 75 [1,1,1])],[],.run,CallKind.normal,none⟩
noncomputable def zbI:AFrame:=⟨75,91,(tX (tX (tX tZ (tX (tX tZ (tX (tY (.ptr lk 0 0)) tZ)) tZ)) (tX tZ (tX (tX tZ (tX (tY (.ptr q 0 0)) tZ)) tZ))) (tX (tX tZ (tX (tX tZ (tX (tY (.ptr p 0 0)) tZ)) tZ)) tZ)),   [.ops (rg P 75 [1,1,0,0,0,0,1,0,0]).toList ((rg P 75 [1,1,0,0,0,0,1,0,0]).toList.drop 3),.code (cd P 75 [1,1,0,0,0,0,0,0,0,0,0,0,0,0,0,0,1,0,1]),.code (cd P 75 [1,1,0,0,0,0,0,0,0,0,0,0,0,0,0,0,0,0,0,1]),.inBlock 8,.code (cd P 75 [1,1,0,0,1]),.inBlock 0,.code (cd P 75 [1,1,1])],[],.run,CallKind.normal,none⟩
noncomputable def zae:AFrame:=⟨75,91,(tX (tX (tX (tX tZ (tX tZ (tX (tY (.ptr lk 0 0)) tZ))) tZ) (tX (tX tZ (tX tZ (tX (tY (.ptr q 0 0)) tZ))) tZ)) (tX (tX (tX tZ (tX tZ (tX (tY (.ptr p 0 0)) tZ))) tZ) tZ)),   [.ops (rg P 75 [1,1,0,0,1,0,0]).toList ((rg P 75 [1,1,0,0,1,0,0]).toList.drop 3),.code (cd P 75 [1,1,0,0,0,0,0,0,0,0,0,0,0,0,0,0,1,0,1]),.code (cd P 75 [1,1,0,0,0,0,0,0,0,0,0,0,0,0,0,0,0,0,0,1]),.inBlock 0,.code (cd P 75 [1,1,1])],[],.run,CallKind.normal,none⟩
end
section
variable {R:AV→AHeap→Prop} {keep N p q lk:Nat} {f0:FuncId} {rest:List AFrame} {O:T AObj} {k k2 pz:Int} {nm nm2:List UInt8} {G:T (T AV)} {K:AM→Prop} {td:List AItem} {bl:Bool}
theorem zc1:(∃ (O1:T AObj),(lC O N G lk 0 (.int .u64 pz))∧(zc (⟨O,N,G⟩) (lk) (0) (0) ([.int .u64 (IntKind.u64.wrap (pz+(1:Int)))])=(some ⟨O1,N,G⟩))∧(lC O1 N G p 0 (.int .i64 k))∧(((k==(1:Int)))=true→(K (AM.mk (RF 75 91 (tX tZ (tX tZ (tY (.bool true)))) [.code (cd P 75 [1,1,0,0,0,0,0,0,0,0,0,0,0,0,0,0,1,0,1]),.code (cd P 75 [1,1,0,0,0,0,0,0,0,0,0,0,0,0,0,0,0,0,0,1]),.inBlock 3,.code (cd P 75 [1,1,0,0,0,0,0,0,0,0,0,0,0,0,1]),.inBlock 4,.code (cd P 75 [1,1,0,0,0,0,0,0,0,0,0,0,1]),.inBlock 5,.code (cd P 75 [1,1,0,0,0,0,0,0,0,0,1]),.inBlock 6,.code (cd P 75 [1,1,0,0,0,0,0,0,1]),.inBlock 7,.code (cd P 75 [1,1,0,0,0,0,1]),.inBlock 8,.code (cd P 75 [1,1,0,0,1]),.inBlock 0,.code (cd P 75 [1,1,1])]) rest ⟨O1,N,G⟩)))∧(((k==(1:Int)))=false→((lC O1 N G q 0 (.int .i64 k2))∧(((k2==(1:Int)))=true→(K (AM.mk (RF 75 91 (tX tZ (tX tZ (tY (.bool true)))) [.code (cd P 75 [1,1,0,0,0,0,0,0,0,0,0,0,0,0,0,0,1,0,1]),.code (cd P 75 [1,1,0,0,0,0,0,0,0,0,0,0,0,0,0,0,0,0,0,1]),.inBlock 3,.code (cd P 75 [1,1,0,0,0,0,0,0,0,0,0,0,0,0,1]),.inBlock 4,.code (cd P 75 [1,1,0,0,0,0,0,0,0,0,0,0,1]),.inBlock 5,.code (cd P 75 [1,1,0,0,0,0,0,0,0,0,1]),.inBlock 6,.code (cd P 75 [1,1,0,0,0,0,0,0,1]),.inBlock 7,.code (cd P 75 [1,1,0,0,0,0,1]),.inBlock 8,.code (cd P 75 [1,1,0,0,1]),.inBlock 0,.code (cd P 75 [1,1,1])]) rest ⟨O1,N,G⟩)))∧(((k2==(1:Int)))=false→((lC O1 N G p 0 (.int .i64 k))∧(((k==(9:Int)))=true→(K (AM.mk (enF 108 [.ptr lk 0 0,.ptr p 0 0,.ptr q 0 0]) ((zju p q lk)::rest) ⟨O1,N,G⟩)))∧(((k==(9:Int)))=false→((lC O1 N G q 0 (.int .i64 k2))∧(((k2==(9:Int)))=true→(K (AM.mk (enF 109 [.ptr lk 0 0,.ptr p 0 0,.ptr q 0 0]) ((zgU p q lk)::rest) ⟨O1,N,G⟩)))∧(((k2==(9:Int)))=false→((lC O1 N G p 0 (.int .i64 k))∧(lC O1 N G q 0 (.int .i64 k2))∧(((k != k2))=true→(K (AM.mk (RF 75 91 (tX tZ (tX tZ (tY (.bool false)))) [.code (cd P 75 [1,1,0,0,0,0,0,0,0,0,0,0,0,0,0,0,1,0,1]),.code (cd P 75 [1,1,0,0,0,0,0,0,0,0,0,0,0,0,0,0,0,0,0,1]),.inBlock 6,.code (cd P 75 [1,1,0,0,0,0,0,0,1]),.inBlock 7,.code (cd P 75 [1,1,0,0,0,0,1]),.inBlock 8,.code (cd P 75 [1,1,0,0,1]),.inBlock 0,.code (cd P 75 [1,1,1])]) rest ⟨O1,N,G⟩)))∧(((k != k2))=false→((lC O1 N G p 0 (.int .i64 k))∧(((k==(6:Int)))=true→((lC O1 N G p 1 (.str nm))∧(lC O1 N G q 1 (.str nm2))∧K (AM.mk (RF 75 91 (tX tZ (tX tZ (tY (.bool (nm==nm2))))) [.code (cd P 75 [1,1,0,0,0,0,0,0,0,0,0,0,0,0,0,0,1,0,1]),.code (cd P 75 [1,1,0,0,0,0,0,0,0,0,0,0,0,0,0,0,0,0,0,1]),.inBlock 7,.code (cd P 75 [1,1,0,0,0,0,1]),.inBlock 8,.code (cd P 75 [1,1,0,0,1]),.inBlock 0,.code (cd P 75 [1,1,1])]) rest ⟨O1,N,G⟩)))∧(((k==(6:Int)))=false→((lC O1 N G p 0 (.int .i64 k))∧(((k==(7:Int)))=true→(K (AM.mk (enF 110 [.ptr lk 0 0,.ptr p 0 0,.ptr q 0 0]) ((zbI p q lk)::rest) ⟨O1,N,G⟩)))∧(((k==(7:Int)))=false→((lC O1 N G p 0 (.int .i64 k))∧(((k==(8:Int)))=true→(K (AM.mk (enF 111 [.ptr lk 0 0,.ptr p 0 0,.ptr q 0 0]) ((zae p q lk)::rest) ⟨O1,N,G⟩)))∧(((k==(8:Int)))=false→(K (AM.mk (RF 75 91 (tX tZ (tX tZ (tY (.bool true)))) [.code (cd P 75 [1,1,0,0,0,0,0,0,0,0,0,0,0,0,0,0,1,0,1])]) rest ⟨O1,N,G⟩))))))))))))))))))=OT f0 R keep K (.ex fun O1:T AObj=>(.seq [.run 9,.hop (.int .u64 pz) O,.run 3,.hop (.nilp) O1,.run 25,.hop (.int .i64 k) O1,.run 3] (.fork 14 (.seq [.run 9,.keep [6]] .fin) (.seq [.run 8,.hop (.int .i64 k2) O1,.run 3] (.fork 20 (.seq [.run 8,.keep [6]] .fin) (.seq [.run 8,.hop (.int .i64 k) O1,.run 3] (.fork 26 (.seq [.run 8,.keep [66,67,68],.run 1] .fin) (.seq [.run 8,.hop (.int .i64 k2) O1,.run 3] (.fork 32 (.seq [.run 8,.keep [70,71,72],.run 1] .fin) (.seq [.run 8,.hop (.int .i64 k) O1,.run 3,.hop (.int .i64 k2) O1,.run 3] (.fork 38 (.seq [.run 8,.keep [6]] .fin) (.seq [.run 8,.hop (.int .i64 k) O1,.run 3] (.fork 48 (.seq [.run 8,.hop (.str nm) O1,.run 3,.hop (.str nm2) O1,.run 4,.keep [6]] .fin) (.seq [.run 8,.hop (.int .i64 k) O1,.run 3] (.fork 54 (.seq [.run 8,.keep [83,84,85],.run 1] .fin) (.seq [.run 7,.hop (.int .i64 k) O1,.run 3] (.fork 60 (.seq [.run 8,.keep [87,88,89],.run 1] .fin) (.seq [.run 8,.keep [6]] .fin)))))))))))))))))) ((AM.mk (enF 75 [.ptr lk 0 0,.ptr p 0 0,.ptr q 0 0]) rest ⟨O,N,G⟩)):=by kernel_rfl
theorem zgH:(K (AM.mk (RF 75 91 (tX tZ (tX tZ (tY (.bool bl)))) [.code (cd P (75:FuncId) [1,1,0,0,0,0,0,0,0,0,0,0,0,0,0,0,1,0,1]),.code (cd P (75:FuncId) [1,1,0,0,0,0,0,0,0,0,0,0,0,0,0,0,0,0,0,1]),.inBlock 4,.code (cd P (75:FuncId) [1,1,0,0,0,0,0,0,0,0,0,0,1]),.inBlock 5,.code (cd P (75:FuncId) [1,1,0,0,0,0,0,0,0,0,1]),.inBlock 6,.code (cd P (75:FuncId) [1,1,0,0,0,0,0,0,1]),.inBlock 7,.code (cd P (75:FuncId) [1,1,0,0,0,0,1]),.inBlock 8,.code (cd P (75:FuncId) [1,1,0,0,1]),.inBlock 0,.code (cd P (75:FuncId) [1,1,1])]) rest ⟨O,N,G⟩))=OT f0 R keep K (.seq [.run 4,.keep [6]] .fin) ((AM.mk (RF 108 26 (tX tZ (tX tZ (tY (.bool bl)))) td) ((zju p q lk)::rest) ⟨O,N,G⟩)):=by kernel_rfl
theorem zfc:(K (AM.mk (RF 75 91 (tX tZ (tX tZ (tY (.bool bl)))) [.code (cd P (75:FuncId) [1,1,0,0,0,0,0,0,0,0,0,0,0,0,0,0,1,0,1]),.code (cd P (75:FuncId) [1,1,0,0,0,0,0,0,0,0,0,0,0,0,0,0,0,0,0,1]),.inBlock 5,.code (cd P (75:FuncId) [1,1,0,0,0,0,0,0,0,0,1]),.inBlock 6,.code (cd P (75:FuncId) [1,1,0,0,0,0,0,0,1]),.inBlock 7,.code (cd P (75:FuncId) [1,1,0,0,0,0,1]),.inBlock 8,.code (cd P (75:FuncId) [1,1,0,0,1]),.inBlock 0,.code (cd P (75:FuncId) [1,1,1])]) rest ⟨O,N,G⟩))=OT f0 R keep K (.seq [.run 4,.keep [6]] .fin) ((AM.mk (RF 109 27 (tX tZ (tX tZ (tY (.bool bl)))) td) ((zgU p q lk)::rest) ⟨O,N,G⟩)):=by kernel_rfl
theorem zaX:(K (AM.mk (RF 75 91 (tX tZ (tX tZ (tY (.bool bl)))) [.code (cd P (75:FuncId) [1,1,0,0,0,0,0,0,0,0,0,0,0,0,0,0,1,0,1]),.code (cd P (75:FuncId) [1,1,0,0,0,0,0,0,0,0,0,0,0,0,0,0,0,0,0,1]),.inBlock 8,.code (cd P (75:FuncId) [1,1,0,0,1]),.inBlock 0,.code (cd P (75:FuncId) [1,1,1])]) rest ⟨O,N,G⟩))=OT f0 R keep K (.seq [.run 4,.keep [6]] .fin) ((AM.mk (RF 110 27 (tX tZ (tX tZ (tY (.bool bl)))) td) ((zbI p q lk)::rest) ⟨O,N,G⟩)):=by kernel_rfl
theorem wm:(K (AM.mk (RF 75 91 (tX tZ (tX tZ (tY (.bool bl)))) [.code (cd P (75:FuncId) [1,1,0,0,0,0,0,0,0,0,0,0,0,0,0,0,1,0,1]),.code (cd P (75:FuncId) [1,1,0,0,0,0,0,0,0,0,0,0,0,0,0,0,0,0,0,1]),.inBlock 0,.code (cd P (75:FuncId) [1,1,1])]) rest ⟨O,N,G⟩))=OT f0 R keep K (.seq [.run 4,.keep [6]] .fin) ((AM.mk (RF 111 33 (tX tZ (tX tZ (tY (.bool bl)))) td) ((zae p q lk)::rest) ⟨O,N,G⟩)):=by kernel_rfl
end
variable {O O':T AObj} {N:Nat} {G:T (T AV)}
theorem zqE {f hi lk ida idb:Nat}(L:LKC G f){ka kb:Int}{na nb:zi}{nsa nsb:List zi}{tsa tsb:List Ty}{ra rb:Ty}{v:Nat}(ta:Tr O hi (.mk ka na nsa tsa ra) (some ida))(tb:Tr O hi (.mk kb nb nsb tsb rb) (some idb))(oka:∀ x∈tsa,okT x=true)(okb:∀ x∈tsb,okT x=true)(hlk:hi≤lk)(hlN:lk<N)(hob:Obj O lk [.int .u64 (IntKind.u64.wrap ((v:Nat):Int))])(hla:nsa.length=tsa.length)(hlb:nsb.length=tsb.length)(hc:qE tsa+qE tsb≤f){keep:Nat}{f0:FuncId}{Q:AV→AHeap→Prop}{rest:List AFrame}
 (hK:∀ O' N' td,InvL O N lk O' N' (v+(zo (fun p:List UInt8 × Ty=>match fld p.1 nsa tsa with | none=>(false,0) | some x=>tp.look f x p.2) (nsb.zip tsb)).2)→Goal P keep f0 Q (AM.mk (RF 110 27 (tX tZ (tX tZ (tY (.bool (zo (fun p:List UInt8 × Ty=>match fld p.1 nsa tsa with | none=>(false,0) | some x=>tp.look f x p.2) (nsb.zip tsb)).1)))) td) rest ⟨O',N',G⟩)):Goal P keep f0 Q (AM.mk (enF 110 [.ptr lk 0 0,.ptr ida 0 0,.ptr idb 0 0]) rest ⟨O,N,G⟩):=by
 obtain ⟨id,sn,sa,ps,q,hida,i1',i2',i3',i4',i5',i6',i7',i8',i9'⟩:=ta.inv
 cases hida
 obtain ⟨id2,sn2,sa2,ps2,q2',hidb,k1',k2',k3',k4',k5',k6',k7',k8',k9'⟩:=tb.inv
 cases hidb
 obtain ⟨O1,e1,b1,f1⟩:=Obj.mk (c:=(tY (.ptr lk 0 0))) (el:=114) [.ptr lk 0 0] O N 1 rfl (fun u hu=>by rcases u with _ | u <;> first | rfl | omega)
 obtain ⟨O2a,e2,b2,f2⟩:=Obj.mk (c:=(tY (.ptr ida 0 0))) (el:=23) [.ptr ida 0 0] O1 (N+1) 1 rfl (fun u hu=>by rcases u with _ | u <;> first | rfl | omega)
 obtain ⟨O3a,e3,b3,f3⟩:=Obj.mk (c:=(tY (.ptr idb 0 0))) (el:=23) [.ptr idb 0 0] O2a (N+2) 1 rfl (fun u hu=>by rcases u with _ | u <;> first | rfl | omega)
 have q3:∀ j,j<N→O3a.get j=O.get j:=fun j hj=>(f3 j (by omega)).trans ((f2 j (by omega)).trans (f1 j (by omega)))
 have b1':=b1.same ((f3 N (by omega)).trans (f2 N (by omega)))
 have b2':=b2.same (f3 (N+1) (by omega))
 refine (ot (t_fds (sn2:=sn2)) ⟨O1,O2a,O3a,((nsb.length:Nat):Int),e1,e2,e3,b3.ld 0 rfl,(k2'.same (q3 idb (by omega))).load 2 _ _ (Nat.le_of_ble_eq_true rfl),(k3'.keep (fun j _ hj=>q3 j (by omega)) (Nat.le_refl 0) (Nat.le_refl hi)).len sSl _ _,?_⟩)
 refine zlJ (hi:=hi) (O:=O) (N:=N) k3' k7' (by omega) q3 (pre:=[]) (Nat.zero_le _) (M:=N+3) (Nat.le_refl _) ?_ nsb.length 0 O3a (N+3) (.nils 0 0) [] (Nat.zero_add _) (Nat.le_refl _) (fun _ _=>rfl) rfl GV.nil (fun j b y h=>by simp at h) (fun b h=>by simp at h)
 intro O2 N2 s bs hn fr hbl g hb hne i hi'
 rw [List.nil_append] at g
 have lo':∀ j,j<hi→O2.get j=O.get j:=fun j hj=>(fr j (by omega)).trans (q3 j (by omega))
 have inv:InvL O N lk O2 N2 v:=⟨by omega,fun j h1 h2=>(fr j (by omega)).trans (q3 j h1),hob.same ((fr lk (by omega)).trans (q3 lk hlN))⟩
 have inv0:InvL O2 N2 lk O2 N2 v:=⟨Nat.le_refl _,fun _ _ _=>rfl,inv.2.2⟩
 have rsl:((nsb.zip tsb).map (fun p:List UInt8 × Ty=>match fld p.1 nsa tsa with | none=>(false,0) | some x=>tp.look f x p.2)).length=nsb.length:=by rw [List.length_map,List.length_zip]; omega
 refine (ot (znG (n:=((nsb.length:Nat):Int)) (j:=((i:Nat):Int)) (cb:=(N+1)) (cc_:=(N+2))) (fkf (decide_eq_false (by omega)) ?_))
 refine zeq (rs:=(nsb.zip tsb).map (fun p:List UInt8 × Ty=>match fld p.1 nsa tsa with | none=>(false,0) | some x=>tp.look f x p.2)) (g.sv ke) (by rw [List.length_map]; omega) (by omega) (fun j r hr _=>?_) inv0 fun O3 N3 td inv3=>?_
 · rw [List.getElem?_map] at hr
   obtain ⟨x,hx',rfl⟩:=Option.map_eq_some_iff.1 hr
   obtain ⟨wn,o⟩:=x
   rw [List.getElem?_zip_eq_some] at hx'
   obtain ⟨hw,ho⟩:=hx'
   obtain ⟨hjl,_⟩:=List.getElem?_eq_some_iff.1 ho
   have hom:o∈tsb:=List.mem_of_getElem? ho
   obtain ⟨y,hy,_⟩:=nth (l:=ps2) (j:=j) (by omega)
   obtain ⟨b,hb',_⟩:=nth (l:=bs) (j:=j) (by omega)
   obtain ⟨c1,c2,c3,c4,c5,c6⟩:=hb j b wn hb' hw
   have hcm:=zk hom
   exact ask0 L (hi:=hi) (ca:=N) (cb:=N+1) (cc:=N+2) (ida:=ida) (idb:=idb) (g.sv ke) (Nat.le_refl _) (by omega) (by rw [rsl]; omega) (by omega) (b1'.same (fr N (by omega))) (b2'.same (fr (N+1) (by omega))) (b3.same (fr (N+2) (by omega))) (by omega) (by omega) (by omega) (by omega) (by omega) (by omega) hlk (nb1:=b.2) (ib1:=b.1) (i:=j) (by rw [List.getElem?_map,hb']; rfl) c6 c3 (by omega) (by omega) (by omega) (by omega) (by omega) (ta.same lo' (Nat.le_refl _)) hla oka k1' (k2'.same (lo' idb k1')) (k4'.keep (O':=O2) (fun i _ h=>lo' i h) (Nat.le_refl 0) (Nat.le_refl hi)) hy ((k8' j o y ho hy).same lo' (Nat.le_refl _)) (okb o hom) (show qE tsa+cnt o≤f by omega)
 · rw [vg] at inv3 ⊢
   exact (ot (zi9 (bl:=(zo (fun p:List UInt8 × Ty=>match fld p.1 nsa tsa with | none=>(false,0) | some x=>tp.look f x p.2) (nsb.zip tsb)).1)) (hK O3 N3 _ (inv.trans inv3)))
theorem zqc {f hi lk ida idb:Nat}(L:LKC G f){ka kb:Int}{na nb:zi}{nsa nsb:List zi}{tsa tsb:List Ty}{ra rb:Ty}{v:Nat}(ta:Tr O hi (.mk ka na nsa tsa ra) (some ida))(tb:Tr O hi (.mk kb nb nsb tsb rb) (some idb))(oka:∀ x∈tsa,okT x=true)(okb:∀ x∈tsb,okT x=true)(hlk:hi≤lk)(hlN:lk<N)(hob:Obj O lk [.int .u64 (IntKind.u64.wrap ((v:Nat):Int))])(okra:okT ra=true)(okrb:okT rb=true)(hc:qE tsa+qE tsb+cnt ra+cnt rb≤f){keep:Nat}{f0:FuncId}{Q:AV→AHeap→Prop}{rest:List AFrame}
 (hK:∀ O' N' td,InvL O N lk O' N' (v+(if tsa.length=tsb.length then zo (fun p=>tp.look f p.1 p.2) (tsb.zip tsa++[(ra,rb)]) else (false,0)).2)→Goal P keep f0 Q (AM.mk (RF 111 33 (tX tZ (tX tZ (tY (.bool (if tsa.length=tsb.length then zo (fun p=>tp.look f p.1 p.2) (tsb.zip tsa++[(ra,rb)]) else (false,0)).1)))) td) rest ⟨O',N',G⟩)):Goal P keep f0 Q (AM.mk (enF 111 [.ptr lk 0 0,.ptr ida 0 0,.ptr idb 0 0]) rest ⟨O,N,G⟩):=by
 obtain ⟨id,sn,sa,ps,q,hida,i1',i2',i3',i4',i5',i6',i7',i8',i9'⟩:=ta.inv
 cases hida
 obtain ⟨id2,sn2,sa2,ps2,q2',hidb,k1',k2',k3',k4',k5',k6',k7',k8',k9'⟩:=tb.inv
 cases hidb
 obtain ⟨O1,e1,b1,f1⟩:=Obj.mk (c:=(tY (.ptr lk 0 0))) (el:=114) [.ptr lk 0 0] O N 1 rfl (fun u hu=>by rcases u with _ | u <;> first | rfl | omega)
 obtain ⟨O2a,e2,b2,f2⟩:=Obj.mk (c:=(tY (.ptr ida 0 0))) (el:=23) [.ptr ida 0 0] O1 (N+1) 1 rfl (fun u hu=>by rcases u with _ | u <;> first | rfl | omega)
 obtain ⟨O3a,e3,b3,f3⟩:=Obj.mk (c:=(tY (.ptr idb 0 0))) (el:=23) [.ptr idb 0 0] O2a (N+2) 1 rfl (fun u hu=>by rcases u with _ | u <;> first | rfl | omega)
 have q3:∀ j,j<N→O3a.get j=O.get j:=fun j hj=>(f3 j (by omega)).trans ((f2 j (by omega)).trans (f1 j (by omega)))
 have b1':=b1.same ((f3 N (by omega)).trans (f2 N (by omega)))
 have b2':=b2.same (f3 (N+1) (by omega))
 obtain ⟨O4a,e4,sv4,gv4,f4⟩:=wg ke (132,[N+1,N+2]) O3a (N+3) G (st:=131) (el:=30) (v:=.fn (Fn.func 132) [] [.ptr (N+1) 0 0,.ptr (N+2) 0 0]) (fun h=>by kernel_rfl)
 have q4:∀ j,j<N→O4a.get j=O.get j:=fun j hj=>(f4 j (by omega)).trans (q3 j hj)
 refine (ot (t_fns (sa2:=sa2)) ⟨O1,O2a,O3a,O4a,((ps2.length:Nat):Int),e1,e2,e3,e4,(b3.same (f4 (N+2) (by omega))).load 0 _ _ (Nat.le_of_ble_eq_true rfl),(k2'.same (q4 idb (by omega))).load 3 _ _ (Nat.le_of_ble_eq_true rfl),(k4'.keep (fun j _ hj=>q4 j (by omega)) (Nat.le_refl 0) (Nat.le_refl hi)).len pSl _ _,?_⟩)
 refine zmy (hi:=hi) (O:=O) (N:=N) k4' (by omega) (by omega) q4 (pre:=[(132,[N+1,N+2])]) (Nat.le_refl _) (M:=N+4) (by omega) ?_ ps2.length 0 O4a (N+4) (.slc (N+3) 0 0 1 1) [] (Nat.zero_add _) (Nat.le_refl _) (fun _ _=>rfl) rfl gv4 (fun j b y h=>by simp at h) (fun b h=>by simp at h)
 intro O2 N2 s bs hn fr hbl g0 hb hne i hi'
 obtain ⟨O5,e5,sv5,gv5,f5⟩:=wg ke (134,[N,N+1,N+2]) O2 N2 G (st:=131) (el:=30) (v:=.fn (Fn.func 134) [] [.ptr N 0 0,.ptr (N+1) 0 0,.ptr (N+2) 0 0]) (fun h=>by kernel_rfl)
 have g5:=g0.keep (O':=O5) (fun j h1 h2=>f5 j (by omega)) (Nat.le_refl (N+3)) (show N2≤N2+1 by omega)
 obtain ⟨O6,N6,s6,e6,g,n6,n6',fr6,sd6⟩:=g5.app zjh ke sv5 (by omega) (by rw [List.length_append,List.length_map]; simp only [List.length_cons,List.length_nil]; omega) G
 have fr7:∀ j,j<N+3→O6.get j=O3a.get j:=fun j hj=>(fr6 j (by omega) (fun hne'=>by have:=(g5.sid_lt hne').1; omega)).trans ((f5 j (by omega)).trans ((fr j hj).trans (f4 j (by omega))))
 have lo':∀ j,j<hi→O6.get j=O.get j:=fun j hj=>(fr7 j (by omega)).trans (q3 j (by omega))
 have inv:InvL O N lk O6 N6 v:=⟨by omega,fun j h1 h2=>(fr7 j (by omega)).trans (q3 j h1),hob.same ((fr7 lk (by omega)).trans (q3 lk hlN))⟩
 have inv0:InvL O6 N6 lk O6 N6 v:=⟨Nat.le_refl _,fun _ _ _=>rfl,inv.2.2⟩
 have bx1:=b1'.same (fr7 N (by omega))
 have bx2:=b2'.same (fr7 (N+1) (by omega))
 have bx3:=b3.same (fr7 (N+2) (by omega))
 have aO:=i2'.same (lo' ida i1')
 have bO:=k2'.same (lo' idb k1')
 have saO:=i4'.keep (O':=O6) (fun i _ h=>lo' i h) (Nat.le_refl 0) (Nat.le_refl hi)
 have sbO:=k4'.keep (O':=O6) (fun i _ h=>lo' i h) (Nat.le_refl 0) (Nat.le_refl hi)
 refine (ot (zn2 (n:=((ps2.length:Nat):Int)) (j:=((i:Nat):Int)) (cb:=(N+1)) (cc_:=(N+2))) (fkf (decide_eq_false (by omega)) ⟨O5,s6,O6,N6,e5,e6,?_⟩))
 have clen:([(132,[N+1,N+2])]++bs.map (fun b:Nat × Nat=>(133,[N,b.2,N+1,b.1]))++[(134,[N,N+1,N+2])]).length=ps2.length+2:=by simp; omega
 have first:([(132,[N+1,N+2])]++bs.map (fun b:Nat × Nat=>(133,[N,b.2,N+1,b.1]))++[(134,[N,N+1,N+2])])[0]?=some (132,[N+1,N+2]):=rfl
 by_cases hl:tsa.length=tsb.length
 · rw [if_pos hl] at hK
   have rsl:((true,0)::((tsb.zip tsa++[(ra,rb)]).map (fun p=>tp.look f p.1 p.2))).length=ps2.length+2:=by simp; omega
   refine zeq (rs:=(true,0)::((tsb.zip tsa++[(ra,rb)]).map (fun p=>tp.look f p.1 p.2))) (g.sv ke) (by rw [clen,rsl]) (by omega) (fun j r hr _=>?_) inv0 fun O3 N3 td inv3=>?_
   · rcases j with _ | j
     · cases hr
       have:=ask2 (j:=0) L (hi:=hi) (ca:=N) (cb:=N+1) (cc:=N+2) (ida:=ida) (idb:=idb) (g.sv ke) (Nat.le_refl _) (by omega) (by rw [rsl]; omega) (by omega) bx1 bx2 bx3 (by omega) (by omega) (by omega) (by omega) (by omega) (by omega) hlk first i1' k1' aO bO saO sbO (n:=(((true,0)::((tsb.zip tsa++[(ra,rb)]).map (fun p=>tp.look f p.1 p.2)):List (Bool × Nat)).length:Nat))
       rw [decide_eq_true (by omega)] at this
       exact this
     · rw [List.getElem?_cons_succ,List.getElem?_map] at hr
       obtain ⟨x,hx',rfl⟩:=Option.map_eq_some_iff.1 hr
       have hjl:=(List.getElem?_eq_some_iff.1 hx').1
       rw [List.length_append,List.length_zip] at hjl
       simp only [List.length_cons,List.length_nil] at hjl
       by_cases hj:j<tsb.length
       · rw [List.getElem?_append_left (by rw [List.length_zip]; omega)] at hx'
         obtain ⟨o2,o1⟩:=x
         rw [List.getElem?_zip_eq_some] at hx'
         obtain ⟨h2,h1⟩:=hx'
         have hom2:o2∈tsb:=List.mem_of_getElem? h2
         have hom1:o1∈tsa:=List.mem_of_getElem? h1
         obtain ⟨y,hy,_⟩:=nth (l:=ps2) (j:=j) (by omega)
         obtain ⟨y1,hy1,_⟩:=nth (l:=ps) (j:=j) (by omega)
         obtain ⟨b,hb',_⟩:=nth (l:=bs) (j:=j) (by omega)
         obtain ⟨c1,c2,c3,c4,c5,c6⟩:=hb j b y hb' hy
         have hcm2:=zk hom2
         have hcm1:=zk hom1
         have keepb:∀ z,z<N2→(s≠.nils 0 0→z≠sid s)→O6.get z=O2.get z:=fun z h1 h3=>(fr6 z (by omega) h3).trans (f5 z (by omega))
         have hbm:=List.mem_of_getElem? hb'
         exact ask3 L (hi:=hi) (ca:=N) (cb:=N+1) (cc:=N+2) (ida:=ida) (idb:=idb) (g.sv ke) (Nat.le_refl _) (by omega) (by rw [rsl]; omega) (by omega) bx1 bx2 bx3 (by omega) (by omega) (by omega) (by omega) (by omega) (by omega) hlk (xb:=b.2) (ib1:=b.1) (i:=j) (by rw [List.append_assoc,List.cons_append,List.nil_append,List.getElem?_cons_succ,List.getElem?_append_left (by rw [List.length_map]; omega),List.getElem?_map,hb']; rfl) (c3.same (keepb b.1 c2 (fun h=>(hne b hbm h).1))) (c6.same (keepb b.2 c5 (fun h=>(hne b hbm h).2))) (by omega) (by omega) (by omega) (by omega) (by omega) i1' aO saO hy1 ((i8' j o1 y1 h1 hy1).same lo' (Nat.le_refl _)) (oka o1 hom1) ((k8' j o2 y h2 hy).same lo' (Nat.le_refl _)) (okb o2 hom2) (show cnt o2+cnt o1≤f by omega)
       · have hje:j=tsb.length:=by omega
         rw [List.getElem?_append_right (by rw [List.length_zip]; omega),List.length_zip,show j - min tsb.length tsa.length=0 by omega] at hx'
         cases hx'
         exact ask4 L (hi:=hi) (ca:=N) (cb:=N+1) (cc:=N+2) (ida:=ida) (idb:=idb) (g.sv ke) (Nat.le_refl _) (by omega) (by rw [rsl]; omega) (by omega) bx1 bx2 bx3 (by omega) (by omega) (by omega) (by omega) (by omega) (by omega) hlk (by rw [List.getElem?_append_right (by rw [List.length_append,List.length_map]; simp only [List.length_cons,List.length_nil]; omega),List.length_append,List.length_map,show j+1 - ([((132,[N+1,N+2]):Nat × List Nat)].length+bs.length)=0 by simp only [List.length_cons,List.length_nil]; omega]; rfl) (by omega) i1' k1' aO bO (x:=ra) (o:=rb) (i9'.same lo' (Nat.le_refl _)) (k9'.same lo' (Nat.le_refl _)) okra okrb (by omega)
   · rw [yc,if_pos (show (id (true,0):Bool × Nat).1=true from rfl),vg] at inv3 ⊢
     simp only [id,Nat.zero_add] at inv3 ⊢
     exact (ot (zcI (bl:=(zo (fun p=>tp.look f p.1 p.2) (tsb.zip tsa++[(ra,rb)])).1)) (hK O3 N3 _ (inv.trans inv3)))
 · rw [if_neg hl] at hK
   have rsl:((false,0)::(List.replicate (ps2.length+1) (true,0)):List (Bool × Nat)).length=ps2.length+2:=by simp
   refine zeq (rs:=(false,0)::(List.replicate (ps2.length+1) (true,0))) (g.sv ke) (by rw [clen,rsl]) (by omega) (fun j r hr hall=>?_) inv0 fun O3 N3 td inv3=>?_
   · rcases j with _ | j
     · cases hr
       have:=ask2 (j:=0) L (hi:=hi) (ca:=N) (cb:=N+1) (cc:=N+2) (ida:=ida) (idb:=idb) (g.sv ke) (Nat.le_refl _) (by omega) (by rw [rsl]; omega) (by omega) bx1 bx2 bx3 (by omega) (by omega) (by omega) (by omega) (by omega) (by omega) hlk first i1' k1' aO bO saO sbO (n:=(((false,0)::(List.replicate (ps2.length+1) (true,0)):List (Bool × Nat)).length:Nat))
       rw [decide_eq_false (by omega)] at this
       exact this
     · have:=hall 0 (false,0) (by omega) rfl
       cases this
   · rw [yc,if_neg (show ¬ (id (false,0):Bool × Nat).1=true from by simp)] at inv3 ⊢
     simp only [id] at inv3 ⊢
     exact (ot zcI (hK O3 N3 _ (inv.trans inv3)))
theorem zaT:∀ (f:Nat),LKC G f
 | 0=>by
  intro keep f0 Q hi lk a b pa pb rest O N v hc oa ob
  have:=zdk oa
  omega
 | f+1=>by
  intro keep f0 Q hi lk a b pa pb rest O N v hc oa ob ta tb hlk hlN hobj hK
  cases a with
  | no=>rw [xL] at oa; cases oa
  | mk ka na nsa ts ra =>
  cases b with
  | no=>rw [xL] at ob; cases ob
  | mk kb nb nsb ts2 rb =>
  have ta0:=ta
  have tb0:=tb
  obtain ⟨id,sn,sa,ps,q,rfl,i1',i2',i3',i4',i5',i6',i7',i8',i9'⟩:=ta.inv
  obtain ⟨id2,sn2,sa2,ps2,q2,rfl,k1',k2',k3',k4',k5',k6',k7',k8',k9'⟩:=tb.inv
  have oka:=(zP oa).2.1
  have okb:=(zP ob).2.1
  have hca:cnt (.mk ka na nsa ts ra)=1+qE ts+cnt ra:=zT
  have hcb:cnt (.mk kb nb nsb ts2 rb)=1+qE ts2+cnt rb:=zT
  obtain ⟨O1,s1,h1,f1⟩:=hobj.store 0 [.int .u64 (IntKind.u64.wrap (IntKind.u64.wrap ((v:Nat):Int)+(1:Int)))] N G (Nat.le_of_ble_eq_true rfl) rfl
  have wv:IntKind.u64.wrap (IntKind.u64.wrap ((v:Nat):Int)+(1:Int))=IntKind.u64.wrap (((v+1:Nat):Nat):Int):=by simp only [IntKind.wrap_u64]; omega
  have h1':Obj O1 lk [.int .u64 (IntKind.u64.wrap (((v+1:Nat):Nat):Int))]:=by rw [← wv]; exact h1
  have inv1:InvL O N lk O1 N (v+1):=⟨Nat.le_refl _,fun j hj hne=>f1 j hne,h1'⟩
  have lo':∀ j,j<hi→O1.get j=O.get j:=fun j hj=>f1 j (by omega)
  have i2o:=i2'.same (lo' id i1')
  have k2o:=k2'.same (lo' id2 k1')
  have tao:=ta0.same lo' (Nat.le_refl _)
  have tbo:=tb0.same lo' (Nat.le_refl _)
  have sao:=i4'.keep (O':=O1) (fun j _ h=>lo' j h) (Nat.le_refl 0) (Nat.le_refl hi)
  have sbo:=k4'.keep (O':=O1) (fun j _ h=>lo' j h) (Nat.le_refl 0) (Nat.le_refl hi)
  rw [zpa] at hK
  rcases Bool.eq_false_or_eq_true (ka==1) with a1 | a1
  · rw [if_pos (.inl (eq_of_beq a1))] at hK
    exact (ot (zc1 (k:=ka) (k2:=0) (nm:=[]) (nm2:=[]) (pz:=(IntKind.u64.wrap ((v:Nat):Int)))) ⟨O1,hobj.ld 0 rfl,s1,i2o.ld 0 rfl,fkt a1 (hK O1 N _ inv1)⟩)
  rcases Bool.eq_false_or_eq_true (kb==1) with b1 | b1
  · rw [if_pos (.inr (eq_of_beq b1))] at hK
    exact (ot (zc1 (k:=ka) (k2:=kb) (nm:=[]) (nm2:=[]) (pz:=(IntKind.u64.wrap ((v:Nat):Int)))) ⟨O1,hobj.ld 0 rfl,s1,i2o.ld 0 rfl,fkf a1 ⟨k2o.ld 0 rfl,fkt b1 (hK O1 N _ inv1)⟩⟩)
  rw [if_neg (fun h=>by rcases h with h | h <;> simp_all)] at hK
  rcases Bool.eq_false_or_eq_true (ka==9) with a9 | a9
  · rw [if_pos (eq_of_beq a9)] at hK
    refine (ot (zc1 (k:=ka) (k2:=kb) (nm:=[]) (nm2:=[]) (pz:=(IntKind.u64.wrap ((v:Nat):Int)))) ⟨O1,hobj.ld 0 rfl,s1,i2o.ld 0 rfl,fkf a1 ⟨k2o.ld 0 rfl,fkf b1 ⟨i2o.ld 0 rfl,fkt a9 ?_⟩⟩⟩)
    refine zpp (zaT f) i2o i1' sao i5' i6' (fun j x p a b=>(i8' j x p a b).same lo' (Nat.le_refl _)) tbo ob oka (by omega) hlk hlN h1' fun O' N' td inv2=>?_
    have:=fun td=>hK O' N' td (by have:=inv1.trans inv2; rw [Nat.add_assoc] at this; exact this)
    exact (ot (zgH (bl:=(zo (fun x=>tp.look f x (.mk kb nb nsb ts2 rb)) ts).1)) (this _))
  rw [if_neg (by simpa using a9)] at hK
  rcases Bool.eq_false_or_eq_true (kb==9) with b9 | b9
  · rw [if_pos (eq_of_beq b9)] at hK
    refine (ot (zc1 (k:=ka) (k2:=kb) (nm:=[]) (nm2:=[]) (pz:=(IntKind.u64.wrap ((v:Nat):Int)))) ⟨O1,hobj.ld 0 rfl,s1,i2o.ld 0 rfl,fkf a1 ⟨k2o.ld 0 rfl,fkf b1 ⟨i2o.ld 0 rfl,fkf a9 ⟨k2o.ld 0 rfl,fkt b9 ?_⟩⟩⟩⟩)
    refine zp7 (zaT f) k2o k1' sbo k5' k6' (fun j x p a b=>(k8' j x p a b).same lo' (Nat.le_refl _)) tao oa okb (by omega) hlk hlN h1' fun O' N' td inv2=>?_
    have:=fun td=>hK O' N' td (by have:=inv1.trans inv2; rw [Nat.add_assoc] at this; exact this)
    exact (ot (zfc (bl:=(xH (fun y=>tp.look f (.mk ka na nsa ts ra) y) ts2).1)) (this _))
  rw [if_neg (by simpa using b9)] at hK
  rcases Bool.eq_false_or_eq_true (ka != kb) with hne | hne
  · rw [if_pos (by simpa using hne)] at hK
    exact (ot (zc1 (k:=ka) (k2:=kb) (nm:=[]) (nm2:=[]) (pz:=(IntKind.u64.wrap ((v:Nat):Int)))) ⟨O1,hobj.ld 0 rfl,s1,i2o.ld 0 rfl,fkf a1 ⟨k2o.ld 0 rfl,fkf b1 ⟨i2o.ld 0 rfl,fkf a9 ⟨k2o.ld 0 rfl,fkf b9 ⟨i2o.ld 0 rfl,k2o.ld 0 rfl,fkt hne (hK O1 N _ inv1)⟩⟩⟩⟩⟩)
  rw [if_neg (by simpa using hne)] at hK
  have hkk:ka=kb:=by simpa using hne
  rcases Bool.eq_false_or_eq_true (ka==6) with a6 | a6
  · rw [if_pos (eq_of_beq a6)] at hK
    exact (ot (zc1 (k:=ka) (k2:=kb) (nm:=na) (nm2:=nb) (pz:=(IntKind.u64.wrap ((v:Nat):Int)))) ⟨O1,hobj.ld 0 rfl,s1,i2o.ld 0 rfl,fkf a1 ⟨k2o.ld 0 rfl,fkf b1 ⟨i2o.ld 0 rfl,fkf a9 ⟨k2o.ld 0 rfl,fkf b9 ⟨i2o.ld 0 rfl,k2o.ld 0 rfl,fkf hne ⟨i2o.ld 0 rfl,fkt a6 ⟨i2o.ld 1 rfl,k2o.ld 1 rfl,hK O1 N _ inv1⟩⟩⟩⟩⟩⟩⟩)
  rw [if_neg (by simpa using a6)] at hK
  rcases Bool.eq_false_or_eq_true (ka==7) with a7 | a7
  · rw [if_pos (eq_of_beq a7)] at hK
    have h7:=eq_of_beq a7
    refine (ot (zc1 (k:=ka) (k2:=kb) (nm:=[]) (nm2:=[]) (pz:=(IntKind.u64.wrap ((v:Nat):Int)))) ⟨O1,hobj.ld 0 rfl,s1,i2o.ld 0 rfl,fkf a1 ⟨k2o.ld 0 rfl,fkf b1 ⟨i2o.ld 0 rfl,fkf a9 ⟨k2o.ld 0 rfl,fkf b9 ⟨i2o.ld 0 rfl,k2o.ld 0 rfl,fkf hne ⟨i2o.ld 0 rfl,fkf a6 ⟨i2o.ld 0 rfl,fkt a7 ?_⟩⟩⟩⟩⟩⟩⟩)
    refine zqE (zaT f) tao tbo oka okb hlk hlN h1' (zjR (k:=ka) (nm:=na) (r:=ra) oa h7) (zjR (k:=kb) (nm:=nb) (r:=rb) ob (by omega)) (by omega) fun O' N' td inv2=>?_
    have:=fun td=>hK O' N' td (by have:=inv1.trans inv2; rw [Nat.add_assoc] at this; exact this)
    exact (ot (zaX (bl:=(zo (fun p:List UInt8 × Ty=>match fld p.1 nsa ts with | none=>(false,0) | some x=>tp.look f x p.2) (nsb.zip ts2)).1)) (this _))
  rw [if_neg (by simpa using a7)] at hK
  rcases Bool.eq_false_or_eq_true (ka==8) with a8 | a8
  · rw [if_pos (eq_of_beq a8)] at hK
    have h8:=eq_of_beq a8
    refine (ot (zc1 (k:=ka) (k2:=kb) (nm:=[]) (nm2:=[]) (pz:=(IntKind.u64.wrap ((v:Nat):Int)))) ⟨O1,hobj.ld 0 rfl,s1,i2o.ld 0 rfl,fkf a1 ⟨k2o.ld 0 rfl,fkf b1 ⟨i2o.ld 0 rfl,fkf a9 ⟨k2o.ld 0 rfl,fkf b9 ⟨i2o.ld 0 rfl,k2o.ld 0 rfl,fkf hne ⟨i2o.ld 0 rfl,fkf a6 ⟨i2o.ld 0 rfl,fkf a7 ⟨i2o.ld 0 rfl,fkt a8 ?_⟩⟩⟩⟩⟩⟩⟩⟩)
    refine zqc (zaT f) tao tbo oka okb hlk hlN h1' (zkN (k:=ka) (nm:=na) (ns:=nsa) (ts:=ts) oa h8) (zkN (k:=kb) (nm:=nb) (ns:=nsb) (ts:=ts2) ob (by omega)) (by omega) fun O' N' td inv2=>?_
    by_cases hl:ts.length=ts2.length
    · rw [if_pos hl] at hK inv2 ⊢
      have:=fun td=>hK O' N' td (by have:=inv1.trans inv2; rw [Nat.add_assoc] at this; exact this)
      exact (ot (wm (bl:=(zo (fun p=>tp.look f p.1 p.2) (ts2.zip ts++[(ra,rb)])).1)) (this _))
    · rw [if_neg hl] at hK inv2 ⊢
      have:=fun td=>hK O' N' td (by have:=inv1.trans inv2; exact this)
      exact (ot wm (this _))
  rw [if_neg (by simpa using a8)] at hK
  exact (ot (zc1 (k:=ka) (k2:=kb) (nm:=[]) (nm2:=[]) (pz:=(IntKind.u64.wrap ((v:Nat):Int)))) ⟨O1,hobj.ld 0 rfl,s1,i2o.ld 0 rfl,fkf a1 ⟨k2o.ld 0 rfl,fkf b1 ⟨i2o.ld 0 rfl,fkf a9 ⟨k2o.ld 0 rfl,fkf b9 ⟨i2o.ld 0 rfl,k2o.ld 0 rfl,fkf hne ⟨i2o.ld 0 rfl,fkf a6 ⟨i2o.ld 0 rfl,fkf a7 ⟨i2o.ld 0 rfl,fkf a8 (hK O1 N _ inv1)⟩⟩⟩⟩⟩⟩⟩⟩)
end Go.Proofs.Ytcdigdplhlgcaaa.gx
end
section
set_option maxRecDepth 100000
set_option linter.unusedVariables false
set_option linter.unusedSectionVars false
set_option linter.unusedSimpArgs false
namespace Go.Proofs.Ytcdigdplhlgcaaa.gx
open Go Ev tp
section
variable (s1 s2:AV) (N:Nat) (s1c s2c:AV) (m2:Int)
noncomputable def Fsub:AFrame:=⟨30,22,(tW (tY s2) s1 (tX (tX (tY s1) tZ) tZ)),   [.ops (rg P 30 [1,0,0]).toList ((rg P 30 [1,0,0]).toList.drop 1),.code (cd P 30 [1,0,1]),.code (cd P 30 [1,1])],[],.run,CallKind.normal,none⟩
noncomputable def zhT:AFrame:=⟨30,22,(tW (tW (tX tZ (tY (.bool false))) s2c tZ) s1c (tX (tX tZ (tY s2c)) tZ)),   [.ops (rg P (30:FuncId) [1,0,0]).toList ((rg P (30:FuncId) [1,0,0]).toList.drop 5),.code (cd P (30:FuncId) [1,0,1]),.code (cd P (30:FuncId) [1,1])],[],.run,CallKind.normal,none⟩
noncomputable def jZ:AFrame:=⟨30,22,(tX (tX tZ (tX (tX (tY s2c) tZ) tZ)) (tX (tX (tX (tY s1c) tZ) tZ) (tY (.ptr N 0 0)))),   [.ops (rg P 30 [1,1,1,0]).toList ((rg P 30 [1,1,1,0]).toList.drop 2),.code (cd P 30 [1,1,1,1])],[],.run,CallKind.normal,none⟩
end
section
variable {R:AV→AHeap→Prop} {keep N Nc:Nat} {f0:FuncId} {rest:List AFrame} {O:T AObj} {s1 s2 s1c s2c:AV} {G:T (T AV)} {K:AM→Prop} {td:List AItem} {c c2 m2 m3:Int} {bl bl2:Bool}
theorem t_sub:(K (AM.mk (enF 12 [s1]) ((Fsub s1 s2)::rest) ⟨O,N,G⟩))=OT f0 R keep K (.seq [.run 9,.keep [0,1,8],.run 1] .fin) ((AM.mk (enF 30 [s1,s2]) rest ⟨O,N,G⟩)):=by kernel_rfl
theorem zhc:((((c != (0:Int)))=true→(K (AM.mk (RF 30 22 (tX (tX tZ (tY (.int .u64 0))) (tX (tY (.bool false)) tZ)) [.code (cd P 12 [1,0,0,1,0,1]),.code (cd P (30:FuncId) [1,1])]) rest ⟨O,N,G⟩)))∧(((c != (0:Int)))=false→(K (AM.mk (enF 12 [s2c]) ((zhT s1c s2c)::rest) ⟨O,N,G⟩))))=OT f0 R keep K (.seq [.run 3] (.fork 11 (.seq [.run 12,.keep [4,5]] .fin) (.seq [.run 1,.keep [0,1,11,12],.run 1] .fin))) ((AM.mk (RF 12 14 (tX tZ (tY (.int .i64 c))) td) ((Fsub s1c s2c)::rest) ⟨O,N,G⟩)):=by kernel_rfl
theorem jU:((((c2 != (0:Int)))=true→(K (AM.mk (RF 30 22 (tX (tX tZ (tY (.int .u64 0))) (tX (tY (.bool false)) tZ)) [.code (cd P 12 [1,0,0,1,0,1]),.code (cd P (30:FuncId) [1,1])]) rest ⟨O,N,G⟩)))∧(((c2 != (0:Int)))=false→(∃ (O1:T AObj),(T.set ((some (.cells (tY (.int .u64 0)) 1 85 0 0 1 0 false .leaf))) (O) (N)=O1)∧K (AM.mk (enF 75 [.ptr N 0 0,s1c,s2c]) ((jZ N s1c s2c)::rest) ⟨O1,N+1,G⟩))))=OT f0 R keep K (.seq [.run 4] (.fork 15 (.seq [.run 7,.keep [4,5]] .fin) (.ex fun O1:T AObj=>(.seq [.run 4,.hop (.nilp) O1,.run 5,.keep [6,16,17],.run 1] .fin)))) ((AM.mk (RF 12 14 (tX tZ (tY (.int .i64 c2))) td) ((zhT s1c s2c)::rest) ⟨O,N,G⟩)):=by kernel_rfl
theorem zat:(∃ (z1:Int),(lC O N G Nc 0 (.int .u64 z1))∧(True)∧(lC O N G Nc 0 (.int .u64 z1))∧K (AM.mk (RF 30 22 (tX (tX tZ (tY (.int .u64 z1))) (tX (tY (.bool bl)) tZ)) [.code (cd P 75 [1,1,0,0,0,0,0,0,0,0,0,0,0,0,0,0,1,0,1])]) rest ⟨O,N,G⟩))=OT f0 R keep K (.ex fun z1:Int=>(.seq [.run 7,.hop (.int .u64 z1) O,.hop (.nilp) O,.run 3,.keep [4,5]] .fin)) ((AM.mk (RF 75 91 (tX tZ (tX tZ (tY (.bool bl)))) td) ((jZ Nc s1c s2c)::rest) ⟨O,N,G⟩)):=by kernel_rfl
end
variable {O O':T AObj} {N:Nat} {G:T (T AV)}
def zfA (a b:Ty):Bool × Nat:=if chk a=0∧chk b=0 then tp.look (cnt a+cnt b) a b else (false,0)
theorem zom:IntKind.u64.wrap ((0:Nat):Int)=0:=by rw [IntKind.wrap_u64]; rfl
theorem qR {t:Ty}(h:chk t=0):okT t=true:=by
 unfold chk at h
 split at h
 · cases h
 · split at h
   · cases h
   · split at h
     · assumption
     · cases h
theorem zcB {a b:Ty}{pa pb:Option Nat}{hi:Nat}(ta:Tr O hi a pa)(tb:Tr O hi b pb)(hN:hi≤N){keep:Nat}{f0:FuncId}{Q:AV→AHeap→Prop}{rest:List AFrame}
 (hK:∀ O' N' td,Ext O N O' N'→Goal P keep f0 Q (AM.mk (RF 30 22 (tX (tX tZ (tY (.int .u64 (IntKind.u64.wrap (((zfA a b).2:Nat):Int))))) (tX (tY (.bool (zfA a b).1)) tZ)) td) rest ⟨O',N',G⟩)):Goal P keep f0 Q (AM.mk (enF 30 [pv pa,pv pb]) rest ⟨O,N,G⟩):=by
 refine (ot (t_sub (s1:=(pv pa)) (s2:=(pv pb))) ?_)
 refine chk_ok ta hN fun O1 N1 td1 ex1=>?_
 rcases Bool.eq_false_or_eq_true (chk a != (0:Int)) with h1 | h1
 · have e:zfA a b=(false,0):=if_neg (fun h=>by rw [h.1] at h1; cases h1)
   rw [e] at hK
   simp only [zom] at hK
   exact (ot (zhc (c:=(chk a)) (s1c:=(pv pa)) (s2c:=(pv pb))) (fkt h1 (hK O1 N1 _ ex1)))
 refine (ot (zhc (c:=(chk a)) (s1c:=(pv pa)) (s2c:=(pv pb))) (fkf h1 ?_))
 refine chk_ok (tb.same (fun j hj=>ex1.2 j (by omega)) (Nat.le_refl _)) (Nat.le_trans hN ex1.1) fun O2 N2 td2 ex2=>?_
 have ex:=ex1.trans ex2
 rcases Bool.eq_false_or_eq_true (chk b != (0:Int)) with h2 | h2
 · have e:zfA a b=(false,0):=if_neg (fun h=>by rw [h.2] at h2; cases h2)
   rw [e] at hK
   simp only [zom] at hK
   exact (ot (jU (s1c:=(pv pa)) (s2c:=(pv pb)) (c2:=(chk b))) (fkt h2 (hK O2 N2 _ ex)))
 have z1:chk a=0:=by simpa using h1
 have z2:chk b=0:=by simpa using h2
 have e:zfA a b=tp.look (cnt a+cnt b) a b:=if_pos ⟨z1,z2⟩
 rw [e] at hK
 have ta2:=ta.same (O':=O2) (fun j hj=>ex.2 j (by omega)) (Nat.le_refl _)
 have tb2:=tb.same (O':=O2) (fun j hj=>ex.2 j (by omega)) (Nat.le_refl _)
 have nn:=ex.1
 obtain ⟨O3,e3,b3,f3⟩:=Obj.mk (c:=(tY (.int .u64 0))) (el:=85) [.int .u64 0] O2 N2 1 rfl (fun u hu=>by rcases u with _ | u <;> first | rfl | omega)
 have lo3:∀ j,j<N2→O3.get j=O2.get j:=fun j hj=>f3 j (by omega)
 refine (ot (jU (s1c:=(pv pa)) (s2c:=(pv pb)) (c2:=(chk b))) (fkf (by rw [z2]; rfl) ⟨O3,e3,?_⟩))
 refine zaT (cnt a+cnt b) keep f0 Q hi N2 a b pa pb _ O3 (N2+1) 0 (Nat.le_refl _) (qR z1) (qR z2) (ta2.same (fun j hj=>lo3 j (by omega)) (Nat.le_refl _)) (tb2.same (fun j hj=>lo3 j (by omega)) (Nat.le_refl _)) (by omega) (by omega) (by rw [zom]; exact b3) fun O4 N4 td4 inv=>?_
 have ex4:Ext O N O4 N4:=⟨by have:=inv.1; omega,fun j hj=>(inv.2.1 j (by omega) (by omega)).trans ((lo3 j (by omega)).trans (ex.2 j hj))⟩
 have ob:=inv.2.2
 rw [Nat.zero_add] at ob
 exact (ot (zat (s1c:=(pv pa)) (s2c:=(pv pb)) (bl:=(tp.look (cnt a+cnt b) a b).1)) ⟨(IntKind.u64.wrap (((tp.look (cnt a+cnt b) a b).2:Nat):Int)),ob.ld 0 rfl,trivial,ob.ld 0 rfl,hK O4 N4 _ ex4⟩)
end Go.Proofs.Ytcdigdplhlgcaaa.gx
end
section
set_option maxRecDepth 100000
set_option linter.unusedVariables false
set_option linter.unusedSectionVars false
set_option linter.unusedSimpArgs false
namespace Go.Proofs.Ytcdigdplhlgcaaa.gx
open Go Ev tp
section
variable (sa:AV) (j:Int) (rest:List AFrame) (O:T AObj) (N:Nat) (G:T (T AV)) (i1 i2 i3:Nat) (s1:AV) (z1:Int)
noncomputable def Ffit:AFrame:=⟨65,8,(tW (tX (tY (.int .i64 0)) tZ) s1 (tW (tY s1) .nilp tZ)),   [.ops (rg P 65 [1,0,0]).toList ((rg P 65 [1,0,0]).toList.drop 1),.code (cd P 65 [1,0,1]),.code (cd P 65 [1,1])],[],.run,CallKind.normal,none⟩
noncomputable def zpx:AM:=⟨⟨62,16,(tW (tX (tY (.int .i64 j)) tZ) sa tZ),   [.code (cd P 62 [1,0,1,0,0]),.inLoop (cd P 62 [1,0,1,0,0]),.inBlock 0,.code (cd P 62 [1,1])],[],.run,CallKind.normal,none⟩,rest,⟨O,N,G⟩⟩
noncomputable def zkt:AFrame:=⟨62,16,(tW (tX (tW (tY (.bool true)) (.int .i64 j) (tY (.int .i64 j))) (tW tZ sa (tY s1))) sa (tX (tW tZ (.int .i64 j) (tY (.ptr i1 i2 i3))) (tW (tY sa) (.int .i64 z1) tZ))),   [.ops (rg P 62 [1,0,1,0,0,1,0,0,0]).toList ((rg P 62 [1,0,1,0,0,1,0,0,0]).toList.drop 4),.code (cd P 62 [1,0,1,0,0,1,0,0,1]),.inBlock 1,.code (cd P 62 [1,0,1,0,0,1,1]),.inLoop (cd P (62:FuncId) [1,0,1,0,0]),.inBlock 0,.code (cd P (62:FuncId) [1,1])],[],.run,CallKind.normal,none⟩
end
theorem q_ral (R:AV→AHeap→Prop)(keep:Nat)(f0:FuncId)(rest:List AFrame)(N:Nat)(O:T AObj)(sa:AV)(G:T (T AV))(K:AM→Prop):Obl P f0 (fun v h=>R v h) keep K [.run 11,.keep [0,3]] ((AM.mk (enF 62 [sa]) rest ⟨O,N,G⟩))=(K (zpx sa 0 rest O N G)):=by kernel_rfl
theorem q_fit (R:AV→AHeap→Prop)(keep:Nat)(f0:FuncId)(rest:List AFrame)(N:Nat)(O:T AObj)(s1:AV)(G:T (T AV))(K:AM→Prop):Obl P f0 (fun v h=>R v h) keep K [.run 10] ((AM.mk (enF 65 [s1]) rest ⟨O,N,G⟩))=(K (AM.mk (enF 15 [s1]) ((Ffit s1)::rest) ⟨O,N,G⟩)):=by kernel_rfl
theorem zll (R:AV→AHeap→Prop)(keep:Nat)(f0:FuncId)(rest:List AFrame)(td:List AItem)(N:Nat)(O:T AObj)(c:Int)(s1c:AV)(G:T (T AV))(K:AM→Prop):Obl P f0 (fun v h=>R v h) keep K [.run 3,.know 6 true,.run 7,.keep [2,3]] ((AM.mk (RF 15 5 (tX tZ (tY (.int .i64 c))) td) ((Ffit s1c)::rest) ⟨O,N,G⟩))=((decide (c > (60:Int))=true)∧K (AM.mk (RF 65 8 (tX (tX (tY (.int .i64 3)) tZ) (tY .nilp)) [.code (cd P 15 [1,1]),.code (cd P (65:FuncId) [1,1])]) rest ⟨O,N,G⟩)):=by kernel_rfl
theorem zkB (R:AV→AHeap→Prop)(keep:Nat)(f0:FuncId)(rest:List AFrame)(td:List AItem)(N:Nat)(O:T AObj)(c:Int)(s1c:AV)(G:T (T AV))(K:AM→Prop):Obl P f0 (fun v h=>R v h) keep K [.run 3,.know 6 false,.run 9,.keep [2,3]] ((AM.mk (RF 15 5 (tX tZ (tY (.int .i64 c))) td) ((Ffit s1c)::rest) ⟨O,N,G⟩))=((decide (c > (60:Int))=false)∧K (AM.mk (RF 65 8 (tX (tX (tY (.int .i64 0)) tZ) (tY s1c)) [.code (cd P 15 [1,1])]) rest ⟨O,N,G⟩)):=by kernel_rfl
theorem zpt (R:AV→AHeap→Prop)(keep:Nat)(f0:FuncId)(rest:List AFrame)(N:Nat)(O:T AObj)(n:Int)(mk:Nat)(sl:AV)(z1:Int)(G:T (T AV))(K:AM→Prop):Obl P f0 (fun v h=>R v h) keep K [.run 10,.hop (sl) O,.hopn (.int .i64 z1) O (N),.run 2,.know 11 true,.run 6,.keep [4]] ((AM.mk (enF 73 [.ptr mk 0 0,.int .i64 n]) rest ⟨O,N,G⟩))=((zb (⟨O,N,G⟩) (mk) 0 0 1=(some [sl]))∧(zI P (⟨O,N,G⟩) (Builtin.len) ((some 22)) ([sl])=(some (.int .i64 z1)))∧((z1==(0:Int))=true)∧K (AM.mk (RF 73 30 (tX tZ (tX (tY (.int .i64 0)) tZ)) [.code (cd P 73 [1,0,1,0,1]),.code (cd P 73 [1,1])]) rest ⟨O,N,G⟩)):=by kernel_rfl
theorem zqq (R:AV→AHeap→Prop)(keep:Nat)(f0:FuncId)(rest:List AFrame)(N:Nat)(O:T AObj)(n:Int)(mk:Nat)(sl:AV)(O1:T AObj)(i1:Nat)(i2:Nat)(i3:Nat)(s1:AV)(z1:Int)(z2:Int)(G:T (T AV))(K:AM→Prop):Obl P f0 (fun v h=>R v h) keep K [.run 10,.hop (sl) O,.hopn (.int .i64 z1) O (N),.run 2,.know 11 false,.run 7,.hop (sl) O,.hopn (.ptr i1 i2 i3) O (N),.hop (.int .u8 z2) O,.run 2,.op,.run 8,.hop (sl) O,.hop (s1) O,.run 2,.hopn (.nilp) O1 (N),.run 7,.keep [4]] ((AM.mk (enF 73 [.ptr mk 0 0,.int .i64 n]) rest ⟨O,N,G⟩))=((zb (⟨O,N,G⟩) (mk) 0 0 1=(some [sl]))∧(zI P (⟨O,N,G⟩) (Builtin.len) ((some 22)) ([sl])=(some (.int .i64 z1)))∧((z1==(0:Int))=false)∧(zb (⟨O,N,G⟩) (mk) 0 0 1=(some [sl]))∧(zq P 22 (sl) (.int .i64 0)=(some (.ptr i1 i2 i3)))∧(zb (⟨O,N,G⟩) (i1) (i2) (i3) 1=(some [.int .u8 z2]))∧(n≠(0:Int))∧(zb (⟨O,N,G⟩) (mk) 0 0 1=(some [sl]))∧(xD P (⟨O,N,G⟩) 22 (sl) ((some 1)) (none) (none)=(some s1))∧(s1.cells.length.beq 1=true∧zc (⟨O,N,G⟩:AHeap) mk 0 0 s1.cells=some (⟨O1,N,G⟩:AHeap))∧K (AM.mk (RF 73 30 (tX tZ (tX (tY (.int .i64 ((IntKind.i64.wrap z2).tmod n))) tZ)) [.code (cd P 73 [1,0,1,0,1])]) rest ⟨O1,N,G⟩)):=by kernel_rfl
theorem zoV (R:AV→AHeap→Prop)(keep:Nat)(f0:FuncId)(rest:List AFrame)(N:Nat)(O:T AObj)(sa:AV)(j:Int)(i1:Nat)(i2:Nat)(i3:Nat)(s1:AV)(z1:Int)(G:T (T AV))(K:AM→Prop):Obl P f0 (fun v h=>R v h) keep K [.run 5,.hopn (.int .i64 z1) O (N),.run 2,.know 7 true,.run 8,.hopn (.ptr i1 i2 i3) O (N),.hop (s1) O,.run 1] ((zpx sa j rest O N G))=((zI P (⟨O,N,G⟩) (Builtin.len) ((some 33)) ([sa])=(some (.int .i64 z1)))∧(decide (j<z1)=true)∧(zq P 33 (sa) (.int .i64 j)=(some (.ptr i1 i2 i3)))∧(zb (⟨O,N,G⟩) (i1) (i2) (i3) 1=(some [s1]))∧K (AM.mk (enF 13 [s1]) ((zkt sa j i1 i2 i3 s1 z1)::rest) ⟨O,N,G⟩)):=by kernel_rfl
theorem zoA (R:AV→AHeap→Prop)(keep:Nat)(f0:FuncId)(rest:List AFrame)(N:Nat)(O:T AObj)(sa:AV)(j:Int)(z1:Int)(G:T (T AV))(K:AM→Prop):Obl P f0 (fun v h=>R v h) keep K [.run 5,.hopn (.int .i64 z1) O (N),.run 2,.know 7 false,.run 7,.keep [2]] ((zpx sa j rest O N G))=((zI P (⟨O,N,G⟩) (Builtin.len) ((some 33)) ([sa])=(some (.int .i64 z1)))∧(decide (j<z1)=false)∧K (AM.mk (RF 62 16 (tX tZ (tY (.bool true))) [.code (cd P 62 [1,0,1,0,0,1,0,0,1,0,1])]) rest ⟨O,N,G⟩)):=by kernel_rfl
theorem zfW (R:AV→AHeap→Prop)(keep:Nat)(f0:FuncId)(rest:List AFrame)(td:List AItem)(N:Nat)(O:T AObj)(sa:AV)(c:Int)(j:Int)(i1c:Nat)(i2c:Nat)(i3c:Nat)(z1c:Int)(s1c:AV)(G:T (T AV))(K:AM→Prop):Obl P f0 (fun v h=>R v h) keep K [.run 3,.know 15 true,.run 6,.keep [2]] ((AM.mk (RF 13 11 (tX tZ (tY (.int .i64 c))) td) ((zkt sa j i1c i2c i3c s1c z1c)::rest) ⟨O,N,G⟩))=(((c != (0:Int))=true)∧K (AM.mk (RF 62 16 (tX tZ (tY (.bool false))) [.code (cd P 13 [1,0,1,0,1]),.inBlock 1,.code (cd P (62:FuncId) [1,0,1,0,0,1,1]),.inLoop (cd P (62:FuncId) [1,0,1,0,0]),.inBlock 0,.code (cd P (62:FuncId) [1,1])]) rest ⟨O,N,G⟩)):=by kernel_rfl
theorem zgJ (R:AV→AHeap→Prop)(keep:Nat)(f0:FuncId)(rest:List AFrame)(td:List AItem)(N:Nat)(O:T AObj)(sa:AV)(c:Int)(j:Int)(i1c:Nat)(i2c:Nat)(i3c:Nat)(z1c:Int)(s1c:AV)(G:T (T AV))(K:AM→Prop):Obl P f0 (fun v h=>R v h) keep K [.run 3,.know 15 false,.run 9,.keep [0,3]] ((AM.mk (RF 13 11 (tX tZ (tY (.int .i64 c))) td) ((zkt sa j i1c i2c i3c s1c z1c)::rest) ⟨O,N,G⟩))=(((c != (0:Int))=false)∧K (zpx sa (IntKind.i64.wrap (j+(1:Int))) rest O N G)):=by kernel_rfl
variable {O O':T AObj} {N:Nat} {G:T (T AV)}
theorem zjm {ts:List Ty}{ps:List (Option Nat)}{sa:AV}{hi:Nat}(hs:SV O 1 pE 0 hi ps sa)(hl:ps.length=ts.length)(hm:ts.length<1000000)(ht:∀ (j:Nat) (x:Ty) (p:Option Nat),ts[j]?=some x→ps[j]?=some p→Tr O hi x p)(hN:hi≤N){keep:Nat}{f0:FuncId}{Q:AV→AHeap→Prop}{rest:List AFrame}
 (hK:∀ O' N' td,Ext O N O' N'→Goal P keep f0 Q (AM.mk (RF 62 16 (tX tZ (tY (.bool (ts.all (fun x=>chk x==0))))) td) rest ⟨O',N',G⟩)):Goal P keep f0 Q (AM.mk (enF 62 [sa]) rest ⟨O,N,G⟩):=by
 have loop:∀ (k' i:Nat) (O2:T AObj) (N2:Nat),i+k'=ts.length→Ext O N O2 N2→ts.all (fun x=>chk x==0)=(ts.drop i).all (fun x=>chk x==0)→Goal P keep f0 Q (zpx sa ((i:Nat):Int) rest O2 N2 G):=by
  intro k'
  induction k' with
  | zero =>
   intro i O2 N2 hk ex hv
   rw [hv,List.drop_of_length_le (by omega)] at hK
   have sO2:=hs.keep (O':=O2) (fun j _ hj=>ex.2 j (by omega)) (Nat.le_refl 0) (Nat.le_refl hi)
   exact (Obl.goal mix (K:=Goal P keep f0 Q) (fun _ h=>h) (cast (zoA Q keep f0 rest N2 O2 sa ((i:Nat):Int) ((ts.length:Nat):Int) G (Goal P keep f0 Q)).symm ⟨(by rw [← hl]; exact sO2.len pSl _ _),decide_eq_false (by omega),hK O2 N2 _ ex⟩))
  | succ k' ih =>
   intro i O2 N2 hk ex hv
   have exle:=ex.1
   have sO2:=hs.keep (O':=O2) (fun j _ hj=>ex.2 j (by omega)) (Nat.le_refl 0) (Nat.le_refl hi)
   obtain ⟨x,hx,hxm⟩:=nth (l:=ts) (j:=i) (by omega)
   obtain ⟨y,hy',_⟩:=nth (l:=ps) (j:=i) (by omega)
   obtain ⟨i1,i2,i3,lo1,hi1,eA,rd,_⟩:=sO2.at pSl pEn hy'
   rw [zx hx,List.all_cons] at hv
   have tx:=(ht i x y hx hy').same (O':=O2) (fun j hj=>ex.2 j (by omega)) (Nat.le_refl _)
   refine (Obl.goal mix (K:=Goal P keep f0 Q) (fun _ h=>h) (cast (zoV Q keep f0 rest N2 O2 sa ((i:Nat):Int) i1 i2 i3 (pv y) ((ts.length:Nat):Int) G (Goal P keep f0 Q)).symm ⟨(by rw [← hl]; exact sO2.len pSl _ _),decide_eq_true (by omega),eA,rd.load rfl _ _,?_⟩))
   refine zki tx (by omega) fun O3 N3 td ex3=>?_
   rcases Bool.eq_false_or_eq_true (chk x != (0:Int)) with hb | hb
   · rw [show (chk x==0)=false by simpa using hb,Bool.false_and] at hv
     rw [hv] at hK
     exact (Obl.goal mix (K:=Goal P keep f0 Q) (fun _ h=>h) (cast (zfW Q keep f0 rest td N3 O3 sa (chk x) ((i:Nat):Int) i1 i2 i3 ((ts.length:Nat):Int) (pv y) G (Goal P keep f0 Q)).symm ⟨hb,hK O3 N3 _ (ex.trans ex3)⟩))
   · rw [show (chk x==0)=true by simpa using hb,Bool.true_and] at hv
     have nx:=ih (i+1) O3 N3 (by omega) (ex.trans ex3) hv
     rw [← zC (i:=i) (by omega)] at nx
     exact (Obl.goal mix (K:=Goal P keep f0 Q) (fun _ h=>h) (cast (zgJ Q keep f0 rest td N3 O3 sa (chk x) ((i:Nat):Int) i1 i2 i3 ((ts.length:Nat):Int) (pv y) G (Goal P keep f0 Q)).symm ⟨hb,nx⟩))
 refine (Obl.goal mix (K:=Goal P keep f0 Q) (fun _ h=>h) (cast (q_ral Q keep f0 rest N O sa G (Goal P keep f0 Q)).symm ?_))
 exact loop ts.length 0 O N (Nat.zero_add _) Ext.refl (by rw [List.drop_zero])
theorem zlm {t:Ty}{p:Option Nat}{hi:Nat}(ht:Tr O hi t p){keep:Nat}{f0:FuncId}{Q:AV→AHeap→Prop}{rest:List AFrame}
 (hA:60<cnt t→∀ td,Goal P keep f0 Q (AM.mk (RF 65 8 (tX (tX (tY (.int .i64 3)) tZ) (tY .nilp)) td) rest ⟨O,N,G⟩)) (hB:cnt t≤60→∀ td,Goal P keep f0 Q (AM.mk (RF 65 8 (tX (tX (tY (.int .i64 0)) tZ) (tY (pv p))) td) rest ⟨O,N,G⟩)):Goal P keep f0 Q (AM.mk (enF 65 [pv p]) rest ⟨O,N,G⟩):=by
 refine (Obl.goal mix (K:=Goal P keep f0 Q) (fun _ h=>h) (cast (q_fit Q keep f0 rest N O (pv p) G (Goal P keep f0 Q)).symm ?_))
 refine zgT ht fun td=>?_
 by_cases h:60<cnt t
 · exact (Obl.goal mix (K:=Goal P keep f0 Q) (fun _ h=>h) (cast (zll Q keep f0 rest td N O ((min (cnt t) 61:Nat):Int) (pv p) G (Goal P keep f0 Q)).symm ⟨decide_eq_true (by omega),hA h _⟩))
 · exact (Obl.goal mix (K:=Goal P keep f0 Q) (fun _ h=>h) (cast (zkB Q keep f0 rest td N O ((min (cnt t) 61:Nat):Int) (pv p) G (Goal P keep f0 Q)).symm ⟨decide_eq_false (by omega),hB (by omega) _⟩))
def SVe (O:T AObj) (hi:Nat) (xs:List UInt8) (s:AV):Prop:=SV O 1 bE 0 hi xs s∨(s=.sle∧xs=[])
theorem SVe.keep {hi:Nat}{xs:List UInt8}{s:AV}(h:SVe O hi xs s)(e:∀ j,j<hi→O'.get j=O.get j):SVe O' hi xs s :=
 h.imp (fun h=>h.keep (fun j _ hj=>e j hj) (Nat.le_refl _) (Nat.le_refl _)) id
theorem SVe.one {hi:Nat}{xs:List UInt8}{s:AV}(h:SVe O hi xs s):AV.one s=true:=h.elim (fun h=>h.one) fun h=>by rw [h.1]; rfl
theorem SVe.len {hi:Nat}{xs:List UInt8}{s:AV}(h:SVe O hi xs s)(N:Nat)(G:T (T AV)):zI P ⟨O,N,G⟩ .len (some 22) [s]=some (.int .i64 ((xs.length:Nat):Int)):=by
 rcases h with h | ⟨rfl,rfl⟩
 · exact h.len bSl N G
 · kernel_rfl
def MKo (O:T AObj) (hi mk:Nat) (xs:List UInt8) (nn:Int) (an:Bool):Prop:=∃ sl,Obj O mk [sl,.int .i64 nn,.bool an]∧SVe O hi xs sl
theorem wU {hi mk:Nat}{xs:List UInt8}{nn n:Int}{an:Bool}(hm:MKo O hi mk xs nn an)(hmk:hi≤mk)(hn:0<n){keep:Nat}{f0:FuncId}{Q:AV→AHeap→Prop}{rest:List AFrame}
 (hK:∀ O' td c ys,ys.length≤xs.length→0≤c→c<n→(∀ j,j≠mk→O'.get j=O.get j)→MKo O' hi mk ys nn an→Goal P keep f0 Q (AM.mk (RF 73 30 (tX tZ (tX (tY (.int .i64 c)) tZ)) td) rest ⟨O',N,G⟩)):Goal P keep f0 Q (AM.mk (enF 73 [.ptr mk 0 0,.int .i64 n]) rest ⟨O,N,G⟩):=by
 obtain ⟨sl,ob,sv⟩:=hm
 cases xs with
 | nil=>exact (Obl.goal mix (K:=Goal P keep f0 Q) (fun _ h=>h) (cast (zpt Q keep f0 rest N O n mk sl (((([]:List UInt8)).length:Nat):Int) G (Goal P keep f0 Q)).symm ⟨ob.ld 0 rfl,sv.len _ _,rfl,hK O _ 0 [] (Nat.le_refl _) (Int.le_refl _) hn (fun _ _=>rfl) ⟨sl,ob,sv⟩⟩))
 | cons x xs =>
  have svl:=sv
  replace sv:=sv.resolve_right (fun h=>by cases h.2)
  obtain ⟨i1,i2,i3,lo1,hi1,eA,rd,_⟩:=sv.at (j:=0) bSl bEn rfl
  obtain ⟨s1,es,sv1,_⟩:=sv.sub bSl bEn (a:=1) (b:=(x::xs).length) (by simp) (Nat.le_refl _) (some 1) none (.inl rfl) (.inr ⟨rfl,rfl⟩) N G
  obtain ⟨O1,st,b1,f1⟩:=ob.store 0 [s1] N G (Nat.le_of_ble_eq_true rfl) (by simp only [List.all_cons,List.all_nil,Bool.and_true]; exact sv1.one)
  have hz:IntKind.i64.wrap (bi x)=bi x:=by
   have:=x.toNat_lt
   unfold bi
   rw [IntKind.wrap_i64]
   omega
  have hb0:0≤bi x:=by unfold bi; omega
  refine (Obl.goal mix (K:=Goal P keep f0 Q) (fun _ h=>h) (cast (zqq Q keep f0 rest N O n mk sl O1 i1 i2 i3 s1 (((x::xs).length:Nat):Int) (bi x) G (Goal P keep f0 Q)).symm ⟨ob.ld 0 rfl,sv.len bSl _ _,by simp; omega,ob.ld 0 rfl,eA,rd.load rfl _ _,by omega,ob.ld 0 rfl,es,(by rw [sv1.cells]; exact ⟨rfl,st⟩),?_⟩))
  have sv2:=sv1.keep (O':=O1) (fun j _ hj=>f1 j (by omega)) (Nat.le_refl 0) (Nat.le_refl hi)
  refine hK O1 _ _ _ ?_ ?_ ?_ (fun j hj=>f1 j hj) ⟨s1,b1,.inl sv2⟩
  · simp
  · rw [hz]; exact Int.tmod_nonneg _ hb0
  · exact Int.tmod_lt_of_pos _ hn
end Go.Proofs.Ytcdigdplhlgcaaa.gx
end
section
set_option maxRecDepth 100000
set_option linter.unusedVariables false
set_option linter.unusedSectionVars false
namespace Go.Proofs.Ytcdigdplhlgcaaa.gx
open Go Ev tp
variable {O O':T AObj} {N hi hi' mk:Nat} {G:T (T AV)} {t:Ty} {p:Option Nat}
inductive Tra (O:T AObj) (hi:Nat) (A:Nat→Prop):Ty→Option Nat→Prop
 | nil:Tra O hi A .no none
 | node {k:Int} {nm:zi} {ns:List zi} {aa:List Ty} {r:Ty} {id:Nat} {sn sa:AV} {ps:List (Option Nat)} {q:Option Nat} (hid:id<hi) (hm:¬ A id) (h2:Obj O id [.int .i64 k,.str nm,sn,sa,pv q])
  (h3:SV O 1 sE 0 hi ns sn) (m3:sn≠.nils 0 0→¬ A (sid sn)) (h4:SV O 1 pE 0 hi ps sa) (m4:sa≠.nils 0 0→¬ A (sid sa)) (h5:ps.length=aa.length) (h6:aa.length<1000000) (h7:ns.length<1000000)
  (h8:∀ (j:Nat) (x:Ty) (p:Option Nat),aa[j]?=some x→ps[j]?=some p→Tra O hi A x p) (h9:Tra O hi A r q):Tra O hi A (.mk k nm ns aa r) (some id)
variable {A B:Nat→Prop}
theorem Tra.tr (h:Tra O hi A t p):Tr O hi t p:=by
 induction h with
 | nil=>exact .no
 | node h1 hm h2 h3 m3 h4 m4 h5 h6 h7 h8 h9 ih1 ih2=>exact .mk h1 h2 h3 h4 h5 h6 h7 ih1 ih2
theorem Tra.same (h:Tra O hi A t p)(e:∀ j,j<hi→¬ A j→O'.get j=O.get j)(hh:hi≤hi'):Tra O' hi' A t p:=by
 induction h with
 | nil=>exact .nil
 | node h1 hm h2 h3 m3 h4 m4 h5 h6 h7 h8 h9 ih1 ih2 =>
  exact .node (by omega) hm (h2.same (e _ h1 hm)) (h3.same (fun hn=>e _ (h3.sid_lt hn).2 (m3 hn)) (Nat.le_refl _) hh) m3 (h4.same (fun hn=>e _ (h4.sid_lt hn).2 (m4 hn)) (Nat.le_refl _) hh) m4 h5 h6 h7 ih1 ih2
theorem Tra.of (h:Tr O hi t p)(hm:∀ j,j<hi→¬ A j):Tra O hi A t p:=by
 induction h with
 | no=>exact .nil
 | mk h1 h2 h3 h4 h5 h6 h7 h8 h9 ih1 ih2=>exact .node h1 (hm _ h1) h2 h3 (fun hn=>hm _ (h3.sid_lt hn).2) h4 (fun hn=>hm _ (h4.sid_lt hn).2) h5 h6 h7 ih1 ih2
theorem Tra.imp (h:Tra O hi A t p)(e:∀ j,j<hi→B j→A j):Tra O hi B t p:=by
 induction h with
 | nil=>exact .nil
 | node h1 hm h2 h3 m3 h4 m4 h5 h6 h7 h8 h9 ih1 ih2 =>
  exact .node h1 (fun a=>hm (e _ h1 a)) h2 h3 (fun hn a=>m3 hn (e _ (h3.sid_lt hn).2 a)) h4 (fun hn a=>m4 hn (e _ (h4.sid_lt hn).2 a)) h5 h6 h7 ih1 ih2
theorem Tra.inv {k:Int}{nm:zi}{ns:List zi}{aa:List Ty}{r:Ty}(h:Tra O hi A (.mk k nm ns aa r) p):∃ id sn sa ps q,p=some id∧id<hi∧¬ A id∧Obj O id [.int .i64 k,.str nm,sn,sa,pv q]∧SV O 1 sE 0 hi ns sn∧(sn≠.nils 0 0→¬ A (sid sn))∧SV O 1 pE 0 hi ps sa∧(sa≠.nils 0 0→¬ A (sid sa)) ∧
 ps.length=aa.length∧aa.length<1000000∧ns.length<1000000∧(∀ (j:Nat) (x:Ty) (p:Option Nat),aa[j]?=some x→ps[j]?=some p→Tra O hi A x p)∧Tra O hi A r q:=by
 cases h with
 | node h1 hm h2 h3 m3 h4 m4 h5 h6 h7 h8 h9=>exact ⟨_,_,_,_,_,rfl,h1,hm,h2,h3,m3,h4,m4,h5,h6,h7,h8,h9⟩
def MadeT (an:Bool) (t:Ty):Prop:=∃ k nm ns ts r,t=.mk k nm ns ts r∧cnt t≤60∧(∀ x∈ts,okT x=true)∧(k=7→ns.length=ts.length)∧(k=8→okT r=true)∧(an=false→naT t=true)
theorem MadeT.leaf {an:Bool}{k:Int}{nm:zi}(h7:k≠7)(h8:k≠8)(h1:an=false→k≠1):MadeT an (.mk k nm [] [] .no) :=
 ⟨k,nm,[],[],.no,rfl,by simp [cnt,qE],(fun x h=>by cases h),(fun h=>absurd h h7),(fun h=>absurd h h8),fun h=>by simp [naT,naL,h1 h]⟩
theorem zdh {an:Bool}{t:Ty}(h1:okT t=true)(h2:cnt t≤60)(h3:an=false→naT t=true):MadeT an t:=by
 cases t with
 | no=>rw [xL] at h1; cases h1
 | mk k nm ns aa r =>
  obtain ⟨p1,p2,p3,p4⟩:=zP h1
  refine ⟨k,nm,ns,aa,r,rfl,h2,p2,fun h7=>?_,fun h8=>?_,h3⟩
  · unfold okK at p4
    rw [if_neg (by omega),if_pos h7] at p4
    simp only [Bool.and_eq_true,decide_eq_true_eq] at p4
    exact p4.1.1
  · rcases p3 with q | q
    · have:=((xK p1).2.1).1 h8
      rw [q] at this
      cases this
    · exact q
end Go.Proofs.Ytcdigdplhlgcaaa.gx
end
section
set_option maxRecDepth 100000
set_option linter.unusedVariables false
set_option linter.unusedSectionVars false
set_option linter.unusedSimpArgs false
namespace Go.Proofs.Ytcdigdplhlgcaaa.gx
open Go Ev tp
section
variable (N:Nat) (c:Int) (mk:Nat) (an:Bool)
noncomputable def zpS:AFrame:=⟨78,32,(tW (tX tZ (tY (.ptr mk 0 0))) (.ptr mk 0 0) (tY .nilp)),   [.ops (rg P 78 [1,0]).toList ((rg P 78 [1,0]).toList.drop 1),.code (cd P 78 [1,1])],[],.run,CallKind.normal,none⟩
noncomputable def zcD:AFrame:=⟨78,32,(tW (tX (tW (tW (tY (.int .i64 c)) (.bool false) tZ) (.int .i64 c) (tX (tY (.ptr mk 0 0)) tZ)) (tW (tW (tY (.bool true)) (.bool (decide (c<(4:Int)))) (tY (.agg [.str [UInt8.ofNat 97,UInt8.ofNat 46,UInt8.ofNat 78],.str [UInt8.ofNat 98,UInt8.ofNat 46,UInt8.ofNat 78],.str [UInt8.ofNat 97,UInt8.ofNat 47,UInt8.ofNat 98,UInt8.ofNat 46,UInt8.ofNat 77]]))) (.ptr mk 0 0) (tX (tY (.bool an)) tZ))) (.ptr mk 0 0) (tW (tW (tW (tY (.bool (c==(4:Int)))) (.int .i64 c) tZ) (.ptr N 0 0) (tX (tY (.ptr mk 0 2)) tZ)) .nilp (tW (tX (tY (.ptr mk 0 0)) (tY (.ptr mk 0 0))) (.int .i64 c) (tW (tY (.bool an)) (.bool false) tZ)))),   [.ops (rg P 78 [1,1,1,1,0]).toList ((rg P 78 [1,1,1,1,0]).toList.drop 1),.code (cd P 73 [1,0,1,0,1])],[],.run,CallKind.normal,none⟩
noncomputable def zen:AFrame:=⟨78,32,(tW (tX (tW (tW (tY (.int .i64 c)) (.bool false) tZ) (.int .i64 c) (tX (tY (.tup [])) tZ)) (tW (tW (tY (.bool false)) (.bool (decide (c<(4:Int)))) (tY (.agg [.str [UInt8.ofNat 97,UInt8.ofNat 46,UInt8.ofNat 78],.str [UInt8.ofNat 98,UInt8.ofNat 46,UInt8.ofNat 78],.str [UInt8.ofNat 97,UInt8.ofNat 47,UInt8.ofNat 98,UInt8.ofNat 46,UInt8.ofNat 77]]))) (.ptr mk 0 0) (tX (tY (.tup [])) tZ))) (.ptr mk 0 0) (tW (tW (tW (tY (.bool (c==(4:Int)))) (.int .i64 c) tZ) (.ptr N 0 0) (tX (tY (.tup [])) tZ)) .nilp (tW (tX (tY (.tup [])) (tY (.ptr mk 0 0))) (.int .i64 c) (tW (tY (.bool false)) (.bool false) tZ)))),   [.ops (rg P 78 [1,1,1,1,0]).toList ((rg P 78 [1,1,1,1,0]).toList.drop 1),.code (cd P 73 [1,0,1,0,1])],[],.run,CallKind.normal,none⟩
end
theorem q_lea (R:AV→AHeap→Prop)(keep:Nat)(f0:FuncId)(rest:List AFrame)(N:Nat)(O:T AObj)(mk:Nat)(G:T (T AV))(K:AM→Prop):Obl P f0 (fun v h=>R v h) keep K [.run 8] ((AM.mk (enF 78 [.ptr mk 0 0]) rest ⟨O,N,G⟩))=(K (AM.mk (enF 73 [.ptr mk 0 0,.int .i64 8]) ((zpS mk)::rest) ⟨O,N,G⟩)):=by kernel_rfl
theorem zjO (R:AV→AHeap→Prop)(keep:Nat)(f0:FuncId)(rest:List AFrame)(td:List AItem)(N:Nat)(O:T AObj)(c:Int)(mk:Nat)(O1:T AObj)(G:T (T AV))(K:AM→Prop):Obl P f0 (fun v h=>R v h) keep K [.run 11,.know 7 true,.run 6,.hop (.nilp) O1,.run 3,.keep [2]] ((AM.mk (RF 73 30 (tX tZ (tX (tY (.int .i64 c)) tZ)) td) ((zpS mk)::rest) ⟨O,N,G⟩))=((decide (c<(4:Int))=true)∧(T.set ((some (.cells (tW (tW (tY (.nils 0 0)) (.str []) tZ) (.int .i64 (IntKind.i64.wrap ((2:Int)+c))) (tW (tY .nilp) (.nils 0 0) tZ)) 5 44 0 0 1 0 false .leaf))) (O) (N)=O1)∧K (AM.mk (RF 78 32 (tX tZ (tY (.ptr N 0 0))) [.code (cd P 73 [1,0,1,0,1]),.inBlock 0,.code (cd P 78 [1,1,1])]) rest ⟨O1,N+1,G⟩)):=by kernel_rfl
theorem zgF (R:AV→AHeap→Prop)(keep:Nat)(f0:FuncId)(rest:List AFrame)(td:List AItem)(N:Nat)(O:T AObj)(c:Int)(mk:Nat)(an:Bool)(O1:T AObj)(G:T (T AV))(K:AM→Prop):Obl P f0 (fun v h=>R v h) keep K [.run 11,.know 7 false,.run 6,.know 17 true,.run 3,.hop (.bool an) O,.run 3,.know 14 true,.run 4,.hop (.nilp) O1,.run 3,.keep [2]] ((AM.mk (RF 73 30 (tX tZ (tX (tY (.int .i64 c)) tZ)) td) ((zpS mk)::rest) ⟨O,N,G⟩))=((decide (c<(4:Int))=false)∧((c==(4:Int))=true)∧(zb (⟨O,N,G⟩) (mk) 0 2 1=(some [.bool an]))∧(an=true)∧(T.set ((some (.cells (tW (tW (tY (.nils 0 0)) (.str []) tZ) (.int .i64 1) (tW (tY .nilp) (.nils 0 0) tZ)) 5 44 0 0 1 0 false .leaf))) (O) (N)=O1)∧K (AM.mk (RF 78 32 (tX tZ (tY (.ptr N 0 0))) [.code (cd P 73 [1,0,1,0,1]),.inBlock 0,.code (cd P 78 [1,1,1])]) rest ⟨O1,N+1,G⟩)):=by kernel_rfl
theorem zge (R:AV→AHeap→Prop)(keep:Nat)(f0:FuncId)(rest:List AFrame)(td:List AItem)(N:Nat)(O:T AObj)(c:Int)(mk:Nat)(an:Bool)(O1:T AObj)(O2:T AObj)(G:T (T AV))(K:AM→Prop):Obl P f0 (fun v h=>R v h) keep K [.run 11,.know 7 false,.run 6,.know 17 true,.run 3,.hop (.bool an) O,.run 3,.know 14 false,.run 6,.hop (.nilp) O1,.hop (.nilp) O2,.run 5] ((AM.mk (RF 73 30 (tX tZ (tX (tY (.int .i64 c)) tZ)) td) ((zpS mk)::rest) ⟨O,N,G⟩))=((decide (c<(4:Int))=false)∧((c==(4:Int))=true)∧(zb (⟨O,N,G⟩) (mk) 0 2 1=(some [.bool an]))∧(an=false)∧(T.set ((some (.cells (tW (tY (.str [])) (.str []) (tY (.str []))) 3 90 0 0 1 0 false .leaf))) (O) (N)=O1)∧(zc (⟨O1,N+1,G⟩) (N) 0 0 ([.str [UInt8.ofNat 97,UInt8.ofNat 46,UInt8.ofNat 78],.str [UInt8.ofNat 98,UInt8.ofNat 46,UInt8.ofNat 78],.str [UInt8.ofNat 97,UInt8.ofNat 47,UInt8.ofNat 98,UInt8.ofNat 46,UInt8.ofNat 77]])=(some ⟨O2,N+1,G⟩))∧K (AM.mk (enF 73 [.ptr mk 0 0,.int .i64 3]) ((zcD N c mk an)::rest) ⟨O2,N+1,G⟩)):=by kernel_rfl
theorem zi2 (R:AV→AHeap→Prop)(keep:Nat)(f0:FuncId)(rest:List AFrame)(td:List AItem)(N:Nat)(O:T AObj)(c:Int)(mk:Nat)(O1:T AObj)(O2:T AObj)(G:T (T AV))(K:AM→Prop):Obl P f0 (fun v h=>R v h) keep K [.run 11,.know 7 false,.run 6,.know 17 false,.run 13,.hop (.nilp) O1,.hop (.nilp) O2,.run 5] ((AM.mk (RF 73 30 (tX tZ (tX (tY (.int .i64 c)) tZ)) td) ((zpS mk)::rest) ⟨O,N,G⟩))=((decide (c<(4:Int))=false)∧((c==(4:Int))=false)∧(T.set ((some (.cells (tW (tY (.str [])) (.str []) (tY (.str []))) 3 90 0 0 1 0 false .leaf))) (O) (N)=O1)∧(zc (⟨O1,N+1,G⟩) (N) 0 0 ([.str [UInt8.ofNat 97,UInt8.ofNat 46,UInt8.ofNat 78],.str [UInt8.ofNat 98,UInt8.ofNat 46,UInt8.ofNat 78],.str [UInt8.ofNat 97,UInt8.ofNat 47,UInt8.ofNat 98,UInt8.ofNat 46,UInt8.ofNat 77]])=(some ⟨O2,N+1,G⟩))∧K (AM.mk (enF 73 [.ptr mk 0 0,.int .i64 3]) ((zen N c mk)::rest) ⟨O2,N+1,G⟩)):=by kernel_rfl
theorem zb1 (R:AV→AHeap→Prop)(keep:Nat)(f0:FuncId)(rest:List AFrame)(td:List AItem)(N:Nat)(O:T AObj)(c:Int)(Nc:Nat)(c2:Int)(mk:Nat)(an:Bool)(O1:T AObj)(l1:List UInt8)(G:T (T AV))(K:AM→Prop):Obl P f0 (fun v h=>R v h) keep K [.run 1,.op,.hop (.str l1) O,.run 1,.hop (.nilp) O1,.run 3,.keep [2]] ((AM.mk (RF 73 30 (tX tZ (tX (tY (.int .i64 c2)) tZ)) td) ((zcD Nc c mk an)::rest) ⟨O,N,G⟩))=(((0:Int)≤c2∧c2<(↑3:Int))∧(zb (⟨O,N,G⟩) (Nc) 0 (0+c2.toNat*1) 1=(some [.str l1]))∧(T.set ((some (.cells (tW (tW (tY (.nils 0 0)) (.str l1) tZ) (.int .i64 6) (tW (tY .nilp) (.nils 0 0) tZ)) 5 44 0 0 1 0 false .leaf))) (O) (N)=O1)∧K (AM.mk (RF 78 32 (tX tZ (tY (.ptr N 0 0))) [.code (cd P (73:FuncId) [1,0,1,0,1])]) rest ⟨O1,N+1,G⟩)):=by kernel_rfl
theorem zdz (R:AV→AHeap→Prop)(keep:Nat)(f0:FuncId)(rest:List AFrame)(td:List AItem)(N:Nat)(O:T AObj)(c:Int)(Nc:Nat)(c2:Int)(mk:Nat)(O1:T AObj)(l1:List UInt8)(G:T (T AV))(K:AM→Prop):Obl P f0 (fun v h=>R v h) keep K [.run 1,.op,.hop (.str l1) O,.run 1,.hop (.nilp) O1,.run 3,.keep [2]] ((AM.mk (RF 73 30 (tX tZ (tX (tY (.int .i64 c2)) tZ)) td) ((zen Nc c mk)::rest) ⟨O,N,G⟩))=(((0:Int)≤c2∧c2<(↑3:Int))∧(zb (⟨O,N,G⟩) (Nc) 0 (0+c2.toNat*1) 1=(some [.str l1]))∧(T.set ((some (.cells (tW (tW (tY (.nils 0 0)) (.str l1) tZ) (.int .i64 6) (tW (tY .nilp) (.nils 0 0) tZ)) 5 44 0 0 1 0 false .leaf))) (O) (N)=O1)∧K (AM.mk (RF 78 32 (tX tZ (tY (.ptr N 0 0))) [.code (cd P (73:FuncId) [1,0,1,0,1])]) rest ⟨O1,N+1,G⟩)):=by kernel_rfl
variable {O O':T AObj} {N:Nat} {G:T (T AV)}
theorem MKo.same {hi mk:Nat}{xs:List UInt8}{nn:Int}{an:Bool}(h:MKo O hi mk xs nn an)(e:∀ j,j<hi→O'.get j=O.get j)(e2:O'.get mk=O.get mk):MKo O' hi mk xs nn an:=by
 obtain ⟨sl,ob,sv⟩:=h
 exact ⟨sl,ob.same e2,sv.keep e⟩
theorem zgu {A:Nat→Prop}{hi mk:Nat}{xs:List UInt8}{nn:Int}{an:Bool}(hm:MKo O hi mk xs nn an)(hmk:hi≤mk)(hmN:mk<N)(hA:∀ j,A j→j<N){keep:Nat}{f0:FuncId}{Q:AV→AHeap→Prop}{rest:List AFrame}
 (hK:∀ O' N' td ys t p,ys.length≤xs.length→N≤N'→(∀ j,j<N→j≠mk→O'.get j=O.get j)→MKo O' hi mk ys nn an→Tra O' N' A t p→MadeT an t→Goal P keep f0 Q (AM.mk (RF 78 32 (tX tZ (tY (pv p))) td) rest ⟨O',N',G⟩)):Goal P keep f0 Q (AM.mk (enF 78 [.ptr mk 0 0]) rest ⟨O,N,G⟩):=by
 refine (Obl.goal mix (K:=Goal P keep f0 Q) (fun _ h=>h) (cast (q_lea Q keep f0 rest N O mk G (Goal P keep f0 Q)).symm ?_))
 refine wU hm hmk (n:=8) (by omega) fun O1 td c ys hl c0 c8 f1 m1=>?_
 by_cases h4:c<4
 · obtain ⟨O9,e9,b9,f9⟩:=Obj.mk (c:=(tW (tW (tY (.nils 0 0)) (.str []) tZ) (.int .i64 (IntKind.i64.wrap ((2:Int)+c))) (tW (tY .nilp) (.nils 0 0) tZ))) (el:=44) [.int .i64 (IntKind.i64.wrap ((2:Int)+c)),.str [],.nils 0 0,.nils 0 0,.nilp] O1 (N) 5 rfl (fun u hu=>by rcases u with _ | _ | _ | _ | _ | u <;> first | rfl | omega)
   have hw:IntKind.i64.wrap ((2:Int)+c)=2+c:=by rw [IntKind.wrap_i64]; omega
   exact (Obl.goal mix (K:=Goal P keep f0 Q) (fun _ h=>h) (cast (zjO Q keep f0 rest td N O1 c mk O9 G (Goal P keep f0 Q)).symm ⟨decide_eq_true h4,e9,hK O9 (N+1) _ ys _ (some N) hl (by omega) (fun j h1 h2=>(f9 j (by omega)).trans (f1 j h2)) (m1.same (fun j hj=>f9 j (by omega)) (f9 mk (by omega))) (Tra.node (ps:=[]) (q:=none) (id:=N) (by omega) (fun h=>by have:=hA _ h; omega) b9 SV.nil (fun h=>absurd rfl h) SV.nil (fun h=>absurd rfl h) rfl (by decide) (by decide) (fun j x p h=>by simp at h) Tra.nil) (MadeT.leaf (by omega) (by omega) (fun _=>by omega))⟩))
 · by_cases h5:c=4
   · rcases Bool.eq_false_or_eq_true an with han | han
     · subst han
       obtain ⟨O9,e9,b9,f9⟩:=Obj.mk (c:=(tW (tW (tY (.nils 0 0)) (.str []) tZ) (.int .i64 (1)) (tW (tY .nilp) (.nils 0 0) tZ))) (el:=44) [.int .i64 (1),.str [],.nils 0 0,.nils 0 0,.nilp] O1 (N) 5 rfl (fun u hu=>by rcases u with _ | _ | _ | _ | _ | u <;> first | rfl | omega)
       exact (Obl.goal mix (K:=Goal P keep f0 Q) (fun _ h=>h) (cast (zgF Q keep f0 rest td N O1 c mk true O9 G (Goal P keep f0 Q)).symm ⟨decide_eq_false h4,by rw [h5]; rfl,(by obtain ⟨sl,ob,_⟩:=m1; exact ob.ld 2 rfl),rfl,e9,hK O9 (N+1) _ ys _ (some N) hl (by omega) (fun j h1 h2=>(f9 j (by omega)).trans (f1 j h2)) (m1.same (fun j hj=>f9 j (by omega)) (f9 mk (by omega))) (Tra.node (ps:=[]) (q:=none) (id:=N) (by omega) (fun h=>by have:=hA _ h; omega) b9 SV.nil (fun h=>absurd rfl h) SV.nil (fun h=>absurd rfl h) rfl (by decide) (by decide) (fun j x p h=>by simp at h) Tra.nil) (MadeT.leaf (by decide) (by decide) (fun h=>by cases h))⟩))
     · skip
       obtain ⟨O2,e2,b2,f2⟩:=Obj.mk (c:=(tW (tY (.str [])) (.str []) (tY (.str [])))) (el:=90) [.str [],.str [],.str []] O1 N 3 rfl (fun u hu=>by rcases u with _ | _ | _ | u <;> first | rfl | omega)
       obtain ⟨O3,s3,b3,f3⟩:=b2.store 0 [.str [97,46,78],.str [98,46,78],.str [97,47,98,46,77]] (N+1) G (Nat.le_of_ble_eq_true rfl) rfl
       have m3:MKo O3 hi mk ys nn an:=m1.same (fun j hj=>(f3 j (by omega)).trans (f2 j (by omega))) ((f3 mk (by omega)).trans (f2 mk (by omega)))
       refine (Obl.goal mix (K:=Goal P keep f0 Q) (fun _ h=>h) (cast (zge Q keep f0 rest td N O1 c mk an O2 O3 G (Goal P keep f0 Q)).symm ⟨decide_eq_false h4,by rw [h5]; rfl,(by obtain ⟨sl,ob,_⟩:=m1; exact ob.ld 2 rfl),han,e2,s3,?_⟩))
       refine wU m3 hmk (n:=3) (by omega) fun O4 td2 c2 zs hl2 c02 c32 f4 m4=>?_
       have b4:=b3.same (f4 N (by omega))
       have hc3:c2.toNat=0∨c2.toNat=1∨c2.toNat=2:=by omega
       obtain ⟨l1,hl1⟩:∃ l1,zb ⟨O4,N+1,G⟩ N 0 (0+c2.toNat*1) 1=some [.str l1]:=by
        rcases hc3 with h | h | h <;> rw [h]
        · exact ⟨_,b4.ld 0 rfl⟩
        · exact ⟨_,b4.ld 1 rfl⟩
        · exact ⟨_,b4.ld 2 rfl⟩
       obtain ⟨O9,e9,b9,f9⟩:=Obj.mk (c:=(tW (tW (tY (.nils 0 0)) (.str l1) tZ) (.int .i64 (6)) (tW (tY .nilp) (.nils 0 0) tZ))) (el:=44) [.int .i64 (6),.str l1,.nils 0 0,.nils 0 0,.nilp] O4 (N+1) 5 rfl (fun u hu=>by rcases u with _ | _ | _ | _ | _ | u <;> first | rfl | omega)
       exact (Obl.goal mix (K:=Goal P keep f0 Q) (fun _ h=>h) (cast (zb1 Q keep f0 rest td2 (N+1) O4 c N c2 mk an O9 l1 G (Goal P keep f0 Q)).symm ⟨⟨c02,c32⟩,hl1,e9,hK O9 (N+1+1) _ zs _ (some (N+1)) (by omega) (by omega) (fun j h1 h2=>(f9 j (by omega)).trans ((f4 j h2).trans ((f3 j (by omega)).trans ((f2 j (by omega)).trans (f1 j h2))))) (m4.same (fun j hj=>f9 j (by omega)) (f9 mk (by omega))) (Tra.node (ps:=[]) (q:=none) (id:=N+1) (by omega) (fun h=>by have:=hA _ h; omega) b9 SV.nil (fun h=>absurd rfl h) SV.nil (fun h=>absurd rfl h) rfl (by decide) (by decide) (fun j x p h=>by simp at h) Tra.nil) (MadeT.leaf (by decide) (by decide) (fun _=>by decide))⟩))
   · skip
     obtain ⟨O2,e2,b2,f2⟩:=Obj.mk (c:=(tW (tY (.str [])) (.str []) (tY (.str [])))) (el:=90) [.str [],.str [],.str []] O1 N 3 rfl (fun u hu=>by rcases u with _ | _ | _ | u <;> first | rfl | omega)
     obtain ⟨O3,s3,b3,f3⟩:=b2.store 0 [.str [97,46,78],.str [98,46,78],.str [97,47,98,46,77]] (N+1) G (Nat.le_of_ble_eq_true rfl) rfl
     have m3:MKo O3 hi mk ys nn an:=m1.same (fun j hj=>(f3 j (by omega)).trans (f2 j (by omega))) ((f3 mk (by omega)).trans (f2 mk (by omega)))
     refine (Obl.goal mix (K:=Goal P keep f0 Q) (fun _ h=>h) (cast (zi2 Q keep f0 rest td N O1 c mk O2 O3 G (Goal P keep f0 Q)).symm ⟨decide_eq_false h4,by simpa using h5,e2,s3,?_⟩))
     refine wU m3 hmk (n:=3) (by omega) fun O4 td2 c2 zs hl2 c02 c32 f4 m4=>?_
     have b4:=b3.same (f4 N (by omega))
     have hc3:c2.toNat=0∨c2.toNat=1∨c2.toNat=2:=by omega
     obtain ⟨l1,hl1⟩:∃ l1,zb ⟨O4,N+1,G⟩ N 0 (0+c2.toNat*1) 1=some [.str l1]:=by
      rcases hc3 with h | h | h <;> rw [h]
      · exact ⟨_,b4.ld 0 rfl⟩
      · exact ⟨_,b4.ld 1 rfl⟩
      · exact ⟨_,b4.ld 2 rfl⟩
     obtain ⟨O9,e9,b9,f9⟩:=Obj.mk (c:=(tW (tW (tY (.nils 0 0)) (.str l1) tZ) (.int .i64 (6)) (tW (tY .nilp) (.nils 0 0) tZ))) (el:=44) [.int .i64 (6),.str l1,.nils 0 0,.nils 0 0,.nilp] O4 (N+1) 5 rfl (fun u hu=>by rcases u with _ | _ | _ | _ | _ | u <;> first | rfl | omega)
     exact (Obl.goal mix (K:=Goal P keep f0 Q) (fun _ h=>h) (cast (zdz Q keep f0 rest td2 (N+1) O4 c N c2 mk O9 l1 G (Goal P keep f0 Q)).symm ⟨⟨c02,c32⟩,hl1,e9,hK O9 (N+1+1) _ zs _ (some (N+1)) (by omega) (by omega) (fun j h1 h2=>(f9 j (by omega)).trans ((f4 j h2).trans ((f3 j (by omega)).trans ((f2 j (by omega)).trans (f1 j h2))))) (m4.same (fun j hj=>f9 j (by omega)) (f9 mk (by omega))) (Tra.node (ps:=[]) (q:=none) (id:=N+1) (by omega) (fun h=>by have:=hA _ h; omega) b9 SV.nil (fun h=>absurd rfl h) SV.nil (fun h=>absurd rfl h) rfl (by decide) (by decide) (fun j x p h=>by simp at h) Tra.nil) (MadeT.leaf (by decide) (by decide) (fun _=>by decide))⟩))
end Go.Proofs.Ytcdigdplhlgcaaa.gx
end
section
set_option maxRecDepth 100000
set_option linter.unusedVariables false
set_option linter.unusedSectionVars false
set_option linter.unusedSimpArgs false
namespace Go.Proofs.Ytcdigdplhlgcaaa.gx
open Go Ev tp
theorem q_fro (R:AV→AHeap→Prop)(keep:Nat)(f0:FuncId)(rest:List AFrame)(N:Nat)(O:T AObj)(an:Bool)(lf:AV)(O1:T AObj)(s1:AV)(z1:Int)(G:T (T AV))(K:AM→Prop):Obl P f0 (fun v h=>R v h) keep K [.run 8,.hopn (.int .i64 z1) O (N),.run 1,.hop (s1) O,.run 1,.hopn (.agg [s1,.int .i64 0,.bool an]) O (N),.hopn (.nilp) O1 (N),.run 3,.keep [4]] ((AM.mk (enF 38 [lf,.bool an]) rest ⟨O,N,G⟩))=((zI P (⟨O,N,G⟩) (Builtin.len) ((some 22)) ([lf])=(some (.int .i64 z1)))∧(xD P (⟨O,N,G⟩) 22 (lf) (none) ((some (if decide ((300:Int)<z1)=true then (300:Int) else z1))) (none)=(some s1))∧(vl P 88 ([(0,s1),(2,.bool an)])=(some (.agg [s1,.int .i64 0,.bool an])))∧((Nat.beq 3 (AV.agg [s1,AV.int .i64 (Int.ofNat 0),AV.bool an]).cells.length&&(AV.agg [s1,AV.int .i64 (Int.ofNat 0),AV.bool an]).cells.all AV.one)=true∧T.set (some (AObj.cells (ze T.leaf 0 (AV.agg [s1,AV.int .i64 (Int.ofNat 0),AV.bool an]).cells) (AV.agg [s1,AV.int .i64 (Int.ofNat 0),AV.bool an]).cells.length 88 0 0 1 0 false T.leaf)) (⟨O,N,G⟩:AHeap).objs N=O1)∧K (AM.mk (RF 38 13 (tX tZ (tX (tY (.ptr N 0 0)) tZ)) [.code (cd P 38 [1,1])]) rest ⟨O1,N+1,G⟩)):=by kernel_rfl
variable {O O':T AObj} {N:Nat} {G:T (T AV)}
theorem bldM {s1:AV}{an:Bool}(hv:AV.one s1=true):vl P 88 [(0,s1),(2,.bool an)]=some (.agg [s1,.int .i64 0,.bool an]):=by
 cases s1 <;> first | (cases hv; done) | kernel_rfl
theorem zgN {hi:Nat}{xs:List UInt8}{lf:AV}{an:Bool}(sv:SVe O hi xs lf)(hN:hi≤N){keep:Nat}{f0:FuncId}{Q:AV→AHeap→Prop}{rest:List AFrame}
 (hK:∀ O' td,Ext O N O' (N+1)→MKo O' hi N (xs.take 300) 0 an→Goal P keep f0 Q (AM.mk (RF 38 13 (tX tZ (tX (tY (.ptr N 0 0)) tZ)) td) rest ⟨O',N+1,G⟩)):Goal P keep f0 Q (AM.mk (enF 38 [lf,.bool an]) rest ⟨O,N,G⟩):=by
 have hmin:(if decide ((300:Int)<((xs.length:Nat):Int))=true then (300:Int) else ((xs.length:Nat):Int))=((min 300 xs.length:Nat):Int):=by
  by_cases h:(300:Int)<((xs.length:Nat):Int)
  · rw [if_pos (decide_eq_true h)]; omega
  · rw [if_neg (by simpa using h)]; omega
 have hx:((xs.drop 0).take (min 300 xs.length - 0))=xs.take 300:=by
  rw [List.drop_zero,Nat.sub_zero]
  by_cases h:300≤xs.length
  · rw [Nat.min_eq_left h]
  · rw [Nat.min_eq_right (by omega),List.take_length,List.take_of_length_le (by omega)]
 obtain ⟨s1,es,sv1⟩:∃ s1,xD P ⟨O,N,G⟩ 22 lf none (some (if decide ((300:Int)<((xs.length:Nat):Int))=true then (300:Int) else ((xs.length:Nat):Int))) none=some s1∧SVe O hi (xs.take 300) s1:=by
  rcases sv with sv | ⟨rfl,rfl⟩
  · obtain ⟨s1,es,sv1,_⟩:=sv.sub bSl bEn (a:=0) (b:=min 300 xs.length) (Nat.zero_le _) (by omega) none (some (if decide ((300:Int)<((xs.length:Nat):Int))=true then (300:Int) else ((xs.length:Nat):Int))) (.inr ⟨rfl,rfl⟩) (.inl (by rw [hmin])) N G
    rw [hx] at sv1
    exact ⟨s1,es,.inl sv1⟩
  · exact ⟨.sle,by kernel_rfl,.inr ⟨rfl,rfl⟩⟩
 obtain ⟨O1,e1,b1,f1⟩:=Obj.box (t:=88) [s1,.int .i64 0,.bool an] (by simp only [List.all_cons,List.all_nil,Bool.and_true,sv1.one]; rfl) O N 3 rfl
 have lo:∀ j,j<N→O1.get j=O.get j:=fun j hj=>f1 j (by omega)
 exact (Obl.goal mix (K:=Goal P keep f0 Q) (fun _ h=>h) (cast (q_fro Q keep f0 rest N O an lf O1 s1 ((xs.length:Nat):Int) G (Goal P keep f0 Q)).symm ⟨sv.len _ _,es,bldM sv1.one,e1,hK O1 _ ⟨by omega,lo⟩ ⟨s1,b1,sv1.keep (fun j hj=>lo j (by omega))⟩⟩))
end Go.Proofs.Ytcdigdplhlgcaaa.gx
end
section
set_option maxRecDepth 100000
set_option linter.unusedVariables false
set_option linter.unusedSectionVars false
set_option linter.unusedSimpArgs false
namespace Go.Proofs.Ytcdigdplhlgcaaa.gx
open Go Ev tp
section
variable (N:Nat) (sa:AV) (c:Int) (s1 s1c:AV) (bl:Bool)
noncomputable def Frfu:AFrame:=⟨28,31,(tW (tW (tX (tY sa) tZ) s1 (tY (.int .i64 0))) sa (tX (tY .nilp) tZ)),   [.ops (rg P 28 [1,0,0]).toList ((rg P 28 [1,0,0]).toList.drop 1),.code (cd P 28 [1,0,1]),.code (cd P 28 [1,1])],[],.run,CallKind.normal,none⟩
noncomputable def zdv:AFrame:=⟨28,31,(tW (tW (tX (tY sa) (tY s1c)) s1c (tW (tY (.bool !bl)) (.int .i64 0) tZ)) sa (tX (tW (tY (.bool bl)) .nilp tZ) (tX (tY (.bool false)) tZ))),   [.ops (rg P (28:FuncId) [1,0,0]).toList ((rg P (28:FuncId) [1,0,0]).toList.drop 5),.code (cd P (28:FuncId) [1,0,1]),.code (cd P (28:FuncId) [1,1])],[],.run,CallKind.normal,none⟩
noncomputable def jX:AFrame:=⟨28,31,(tW (tW (tX (tW (tY s1c) sa (tY sa)) (tW (tY (.ptr N 0 0)) s1c (tY (.ptr N 0 0)))) s1c (tW (tW (tY (.ptr N 0 0)) (.bool !bl) (tY (.ptr N 0 0))) (.int .i64 0) (tW (tY (.ptr N 0 3)) (.bool (c != (0:Int))) tZ))) sa (tX (tW (tW (tY (.agg [.int .i64 8,.str [],.nils 0 0,.nils 0 0,s1c])) (.bool bl) (tY s1)) .nilp (tW (tY (.ptr N 0 0)) (.int .i64 c) tZ)) (tW (tW (tY (.ptr N 0 0)) (.bool false) (tY (.ptr N 0 3))) (.ptr N 0 0) (tW (tY (.nils 0 0)) (.bool false) tZ)))),   [.ops (rg P 28 [1,1,1,1,0]).toList ((rg P 28 [1,1,1,1,0]).toList.drop 1),.code (cd P 13 [1,0,1,0,1])],[],.run,CallKind.normal,none⟩
end
theorem q_rfu (R:AV→AHeap→Prop)(keep:Nat)(f0:FuncId)(rest:List AFrame)(N:Nat)(O:T AObj)(sa:AV)(s1:AV)(G:T (T AV))(K:AM→Prop):Obl P f0 (fun v h=>R v h) keep K [.run 10] ((AM.mk (enF 28 [sa,s1]) rest ⟨O,N,G⟩))=(K (AM.mk (enF 62 [sa]) ((Frfu sa s1)::rest) ⟨O,N,G⟩)):=by kernel_rfl
theorem zkI (R:AV→AHeap→Prop)(keep:Nat)(f0:FuncId)(rest:List AFrame)(td:List AItem)(N:Nat)(O:T AObj)(sa:AV)(s1c:AV)(bl:Bool)(G:T (T AV))(K:AM→Prop):Obl P f0 (fun v h=>R v h) keep K [.run 3,.know 10 true,.run 12,.keep [4,5]] ((AM.mk (RF 62 16 (tX tZ (tY (.bool bl))) td) ((Frfu sa s1c)::rest) ⟨O,N,G⟩))=(((!bl)=true)∧K (AM.mk (RF 28 31 (tX (tX tZ (tY (.int .i64 2))) (tX (tY .nilp) tZ)) [.code (cd P 62 [1,0,1,0,0,1,0,0,1,0,1]),.code (cd P (28:FuncId) [1,1])]) rest ⟨O,N,G⟩)):=by kernel_rfl
theorem zjM (R:AV→AHeap→Prop)(keep:Nat)(f0:FuncId)(rest:List AFrame)(td:List AItem)(N:Nat)(O:T AObj)(sa:AV)(s1c:AV)(bl:Bool)(G:T (T AV))(K:AM→Prop):Obl P f0 (fun v h=>R v h) keep K [.run 3,.know 10 false,.run 2] ((AM.mk (RF 62 16 (tX tZ (tY (.bool bl))) td) ((Frfu sa s1c)::rest) ⟨O,N,G⟩))=(((!bl)=false)∧K (AM.mk (enF 13 [s1c]) ((zdv sa s1c bl)::rest) ⟨O,N,G⟩)):=by kernel_rfl
theorem zcY (R:AV→AHeap→Prop)(keep:Nat)(f0:FuncId)(rest:List AFrame)(td:List AItem)(N:Nat)(O:T AObj)(sa:AV)(c:Int)(s1c:AV)(bl:Bool)(G:T (T AV))(K:AM→Prop):Obl P f0 (fun v h=>R v h) keep K [.run 4,.know 14 true,.run 7,.keep [4,5]] ((AM.mk (RF 13 11 (tX tZ (tY (.int .i64 c))) td) ((zdv sa s1c bl)::rest) ⟨O,N,G⟩))=(((c != (0:Int))=true)∧K (AM.mk (RF 28 31 (tX (tX tZ (tY (.int .i64 2))) (tX (tY .nilp) tZ)) [.code (cd P 13 [1,0,1,0,1]),.code (cd P (28:FuncId) [1,1])]) rest ⟨O,N,G⟩)):=by kernel_rfl
theorem zdl (R:AV→AHeap→Prop)(keep:Nat)(f0:FuncId)(rest:List AFrame)(td:List AItem)(N:Nat)(O:T AObj)(sa:AV)(c:Int)(s1c:AV)(bl:Bool)(O1:T AObj)(O2:T AObj)(O3:T AObj)(N1:Nat)(s1:AV)(G:T (T AV))(K:AM→Prop):Obl P f0 (fun v h=>R v h) keep K [.run 4,.know 14 false,.run 5,.hopn (.agg [.int .i64 8,.str [],.nils 0 0,.nils 0 0,s1c]) O (N),.hopn (.nilp) O1 (N),.run 8,.hop (.nils 0 0) O1,.run 1,.hopn (s1) O2 (N1),.run 2,.hopn (.nilp) O3 (N1),.run 5] ((AM.mk (RF 13 11 (tX tZ (tY (.int .i64 c))) td) ((zdv sa s1c bl)::rest) ⟨O,N,G⟩))=(((c != (0:Int))=false)∧(vl P 44 ([(0,.int .i64 8),(4,s1c)])=(some (.agg [.int .i64 8,.str [],.nils 0 0,.nils 0 0,s1c])))∧((Nat.beq 5 (AV.agg [AV.int .i64 (Int.ofNat 8),AV.str [],AV.nils 0 0,AV.nils 0 0,s1c]).cells.length&&(AV.agg [AV.int .i64 (Int.ofNat 8),AV.str [],AV.nils 0 0,AV.nils 0 0,s1c]).cells.all AV.one)=true∧T.set (some (AObj.cells (ze T.leaf 0 (AV.agg [AV.int .i64 (Int.ofNat 8),AV.str [],AV.nils 0 0,AV.nils 0 0,s1c]).cells) (AV.agg [AV.int .i64 (Int.ofNat 8),AV.str [],AV.nils 0 0,AV.nils 0 0,s1c]).cells.length 44 0 0 1 0 false T.leaf)) (⟨O,N,G⟩:AHeap).objs N=O1)∧(zb (⟨O1,N+1,G⟩) (N) 0 3 1=(some [.nils 0 0]))∧(zf P (⟨O1,N+1,G⟩) (Builtin.append) ((some 33)) ((some 33)) ([.nils 0 0,sa])=(some (.val s1 ⟨O2,N1,G⟩)))∧(s1.cells.length.beq 1=true∧zc (⟨O2,N1,G⟩:AHeap) N 0 3 s1.cells=some (⟨O3,N1,G⟩:AHeap))∧K (AM.mk (enF 65 [.ptr N 0 0]) ((jX N sa c s1 s1c bl)::rest) ⟨O3,N1,G⟩)):=by kernel_rfl
theorem qZ (R:AV→AHeap→Prop)(keep:Nat)(f0:FuncId)(rest:List AFrame)(td:List AItem)(N:Nat)(O:T AObj)(sa:AV)(c:Int)(s1c:AV)(Nc:Nat)(c2:Int)(bl:Bool)(rp3:AV)(s1cc:AV)(G:T (T AV))(K:AM→Prop):Obl P f0 (fun v h=>R v h) keep K [.run 7,.keep [4,5]] ((AM.mk (RF 65 8 (tX (tX (tY (.int .i64 c2)) tZ) (tY rp3)) td) ((jX Nc sa c s1cc s1c bl)::rest) ⟨O,N,G⟩))=(K (AM.mk (RF 28 31 (tX (tX tZ (tY (.int .i64 c2))) (tX (tY rp3) tZ)) [.code (cd P (13:FuncId) [1,0,1,0,1])]) rest ⟨O,N,G⟩)):=by kernel_rfl
variable {O O':T AObj} {N:Nat} {G:T (T AV)}
theorem bld44 {k:Int}{q:Option Nat}:vl P 44 [(0,.int .i64 k),(4,pv q)]=some (.agg [.int .i64 k,.str [],.nils 0 0,.nils 0 0,pv q]):=by
 cases q <;> kernel_rfl
theorem zgO {ts:List Ty}{ps:List (Option Nat)}{sa:AV}{r:Ty}{q:Option Nat}{hi:Nat}{mk:Nat→Prop}{an:Bool}(hs:SV O 1 pE 0 hi ps sa)(hl:ps.length=ts.length)(hm:ts.length<1000000)(ht:∀ (j:Nat) (x:Ty) (p:Option Nat),ts[j]?=some x→ps[j]?=some p→Tra O hi mk x p)(tr:Tra O hi mk r q)(na:an=false→(∀ x∈ts,naT x=true)∧naT r=true)(hN:hi≤N)(hmN:∀ j,mk j→j<N){keep:Nat}{f0:FuncId}{Q:AV→AHeap→Prop}{rest:List AFrame}
 (hK:∀ O' N' td t' p' e,Ext O N O' N'→(e=0→Tra O' N' mk t' p'∧MadeT an t')→Goal P keep f0 Q (AM.mk (RF 28 31 (tX (tX tZ (tY (.int .i64 e))) (tX (tY (pv p')) tZ)) td) rest ⟨O',N',G⟩)):Goal P keep f0 Q (AM.mk (enF 28 [sa,pv q]) rest ⟨O,N,G⟩):=by
 refine (Obl.goal mix (K:=Goal P keep f0 Q) (fun _ h=>h) (cast (q_rfu Q keep f0 rest N O sa (pv q) G (Goal P keep f0 Q)).symm ?_))
 refine zjm hs hl hm (fun j x p a b=>(ht j x p a b).tr) hN fun O1 N1 td1 ex1=>?_
 rcases Bool.eq_false_or_eq_true (ts.all (fun x=>chk x==0)) with hb | hb
 rotate_left
 · exact (Obl.goal mix (K:=Goal P keep f0 Q) (fun _ h=>h) (cast (zkI Q keep f0 rest td1 N1 O1 sa (pv q) (ts.all (fun x=>chk x==0)) G (Goal P keep f0 Q)).symm ⟨by rw [hb]; rfl,hK O1 N1 _ .no none 2 ex1 (fun h=>absurd h (by decide))⟩))
 refine (Obl.goal mix (K:=Goal P keep f0 Q) (fun _ h=>h) (cast (zjM Q keep f0 rest td1 N1 O1 sa (pv q) (ts.all (fun x=>chk x==0)) G (Goal P keep f0 Q)).symm ⟨by rw [hb]; rfl,?_⟩))
 have tr1:=tr.same (O':=O1) (fun j hj _=>ex1.2 j (by omega)) (Nat.le_refl _)
 refine zki tr1.tr (Nat.le_trans hN ex1.1) fun O2 N2 td2 ex2=>?_
 have ex:=ex1.trans ex2
 have nn:=ex.1
 rcases Bool.eq_false_or_eq_true (chk r != (0:Int)) with hc | hc
 · exact (Obl.goal mix (K:=Goal P keep f0 Q) (fun _ h=>h) (cast (zcY Q keep f0 rest td2 N2 O2 sa (chk r) (pv q) (ts.all (fun x=>chk x==0)) G (Goal P keep f0 Q)).symm ⟨hc,hK O2 N2 _ .no none 2 ex (fun h=>absurd h (by decide))⟩))
 obtain ⟨O3,e3,b3,f3⟩:=Obj.box (t:=44) [.int .i64 8,.str [],.nils 0 0,.nils 0 0,pv q] (by cases q <;> rfl) O2 N2 5 rfl
 have sv3:=hs.keep (O':=O3) (fun j _ hj=>(f3 j (by omega)).trans (ex.2 j (by omega))) (Nat.le_refl 0) (Nat.le_refl hi)
 have g3:GV O3 23 1 pE (N2+1) (N2+1) ([]:List (Option Nat)) (.nils 0 0):=GV.nil
 obtain ⟨O4,N4,s4,e4,g4,n4,n4',f4,_⟩:=g3.app pSl pEn sv3 (Nat.le_refl _) (by rw [hl]; simp only [List.length_nil]; omega) G
 rw [List.nil_append] at g4
 have b4:=b3.same (f4 N2 (by omega) (fun h=>absurd rfl h))
 obtain ⟨O5,e5,b5,f5⟩:=b4.store 3 [s4] N4 G (Nat.le_of_ble_eq_true rfl) (by simp only [List.all_cons,List.all_nil,Bool.and_true]; exact (g4.sv pEn).one)
 have sid4:s4≠.nils 0 0→N2+1≤sid s4:=fun h=>(g4.sid_lt h).1
 have lo5:∀ j,j<N2→O5.get j=O2.get j:=fun j hj=>(f5 j (by omega)).trans ((f4 j (by omega) (fun h=>absurd rfl h)).trans (f3 j (by omega)))
 have ex5:Ext O N O5 N4:=⟨by omega,fun j hj=>(lo5 j (by omega)).trans (ex.2 j hj)⟩
 have node:Tra O5 N4 mk (.mk 8 [] [] ts r) (some N2):=Tra.node (by omega) (fun h=>by have:=hmN _ h; omega) b5 SV.nil (fun h=>absurd rfl h) ((g4.sv pEn).same (fun h=>f5 _ (by have:=sid4 h; omega)) (Nat.zero_le _) (Nat.le_refl _)) (fun h hA=>by have:=sid4 h; have:=hmN _ hA; omega) hl hm (by decide) (fun j x p a b=>(ht j x p a b).same (fun i h1 _=>ex5.2 i (by omega)) (by omega)) (tr.same (fun i h1 _=>ex5.2 i (by omega)) (by omega))
 refine (Obl.goal mix (K:=Goal P keep f0 Q) (fun _ h=>h) (cast (zdl Q keep f0 rest td2 N2 O2 sa (chk r) (pv q) (ts.all (fun x=>chk x==0)) O3 O4 O5 N4 s4 G (Goal P keep f0 Q)).symm ⟨hc,bld44,e3,(b3.ld 3 rfl),e4,(by rw [(g4.sv pEn).cells]; exact ⟨rfl,e5⟩),?_⟩))
 refine zlm (p:=some N2) node.tr (fun h td=>?_) (fun h td=>?_)
 · exact (Obl.goal mix (K:=Goal P keep f0 Q) (fun _ h=>h) (cast (qZ Q keep f0 rest td N4 O5 sa (chk r) (pv q) N2 3 (ts.all (fun x=>chk x==0)) .nilp s4 G (Goal P keep f0 Q)).symm (hK O5 N4 _ .no none 3 ex5 (fun h=>absurd h (by decide)))))
 · have made:MadeT an (.mk 8 [] [] ts r):=⟨8,[],[],ts,r,rfl,h,fun x hx=>qR (by simpa using List.all_eq_true.1 hb x hx),fun h=>absurd h (by decide),fun _=>qR (by simpa using hc),fun h=>by simp only [naT,zcX,Bool.and_eq_true,List.all_eq_true]; exact ⟨⟨rfl,(na h).1⟩,(na h).2⟩⟩
   exact (Obl.goal mix (K:=Goal P keep f0 Q) (fun _ h=>h) (cast (qZ Q keep f0 rest td N4 O5 sa (chk r) (pv q) N2 0 (ts.all (fun x=>chk x==0)) (pv (some N2)) s4 G (Goal P keep f0 Q)).symm (hK O5 N4 _ _ (some N2) 0 ex5 (fun _=>⟨node,made⟩))))
end Go.Proofs.Ytcdigdplhlgcaaa.gx
end
section
set_option maxRecDepth 100000
set_option linter.unusedVariables false
set_option linter.unusedSectionVars false
set_option linter.unusedSimpArgs false
namespace Go.Proofs.Ytcdigdplhlgcaaa.gx
open Go Ev tp
variable {O O':T AObj} {N:Nat} {G:T (T AV)}
theorem zoW {α:Type}{sz:Nat}{enc:α→List AV}(E:Enc sz enc){el:TypeId}(a b:α)(O:T AObj)(N:Nat)(G:T (T AV)){st:TypeId}{v w:AV}(hb:∀ h:AHeap,zd P h st 2 [(0,v),(1,w)]=some (.slc h.next 0 0 2 2,xp h el (enc a++enc b) false)) :
 ∃ O',zd P ⟨O,N,G⟩ st 2 [(0,v),(1,w)]=some (.slc N 0 0 2 2,⟨O',N+1,G⟩)∧SV O' sz enc N (N+1) [a,b] (.slc N 0 0 2 2)∧Frm O O' N:=by
 have hf:[a,b].flatMap enc=enc a++enc b:=by simp
 have rd:Rd (O.set (some (.cells (ze .leaf 0 (enc a++enc b)) (enc a++enc b).length el 0 0 1 0 false .leaf)) N) N 0 0 ([a,b].flatMap enc):=by
  rw [hf]
  exact .inl ⟨_,_,_,_,_,_,_,_,_,(enc a++enc b).length,by rw [T.get_set,if_pos rfl],by unfold zF; rw [if_pos rfl],Nat.le_refl _,Nat.le_refl _,by omega,At.stored _ _ _⟩
 refine ⟨_,?_,.inr (.inl ⟨N,0,0,2,rfl,Nat.le_refl _,Nat.le_refl _,Nat.lt_succ_self _,rd⟩),fun j hj=>by rw [T.get_set,if_neg hj]⟩
 rw [hb]
 rfl
end Go.Proofs.Ytcdigdplhlgcaaa.gx
end
section
set_option maxRecDepth 100000
set_option linter.unusedVariables false
set_option linter.unusedSectionVars false
set_option linter.unusedSimpArgs false
namespace Go.Proofs.Ytcdigdplhlgcaaa.gx
open Go Ev tp
section
variable (sn sa sn2:AV) (j j2:Int) (m:Nat) (rest:List AFrame) (O:T AObj) (N:Nat) (G:T (T AV)) (i1 i2 i3 i4 i5 i6:Nat) (z1:Int) (l1 l2:List UInt8)
noncomputable def zpB:AFrame:=⟨23,135,(tW (tW tZ sa (tX (tX (tY sa) tZ) tZ)) sn (tX (tX (tX (tY (.bool false)) tZ) tZ) tZ)),   [.ops (rg P 23 [1,0,0]).toList ((rg P 23 [1,0,0]).toList.drop 7),.code (cd P 23 [1,0,1]),.code (cd P 23 [1,1])],[],.run,CallKind.normal,none⟩
noncomputable def Wrec:AM:=⟨⟨23,135,(tW (tW (tX (tY (.int .i64 j)) tZ) sa tZ) sn (tX tZ (tY (.ptr m 0 0)))),   [.code (cd P 23 [1,1,1,0,1,0,0]),.inLoop (cd P 23 [1,1,1,0,1,0,0]),.inBlock 0,.code (cd P 23 [1,1,1,1])],[],.run,CallKind.normal,none⟩,rest,⟨O,N,G⟩⟩
noncomputable def znM:AFrame:=⟨23,135,(tW (tW (tX (tY (.int .i64 j)) tZ) sa tZ) sn (tX (tX (tX (tX (tY (.str l1)) tZ) tZ) tZ) (tY (.ptr m 0 0)))),   [.ops (rg P 23 [1,1,1,0,1,0,0,1,0,0,0,0]).toList ((rg P 23 [1,1,1,0,1,0,0,1,0,0,0,0]).toList.drop 4),.code (cd P 23 [1,1,1,0,1,0,0,1,0,0,0,1]),.code (cd P 23 [1,1,1,0,1,0,0,1,0,0,1]),.inBlock 1,.code (cd P 23 [1,1,1,0,1,0,0,1,1]),.inLoop (cd P (23:FuncId) [1,1,1,0,1,0,0]),.inBlock 0,.code (cd P (23:FuncId) [1,1,1,1])],[],.run,CallKind.normal,none⟩
noncomputable def zm4:AFrame:=⟨23,135,(tX (tX (tX tZ (tX (tX (tX (tX (tY (.ptr m 0 0)) tZ) tZ) tZ) tZ)) tZ) tZ),   [.ops (rg P 23 [1,1,1,1,0]).toList ((rg P 23 [1,1,1,1,0]).toList.drop 1),.code (cd P 23 [1,0,1,0,1])],[],.run,CallKind.normal,none⟩
noncomputable def Wrei:AM:=⟨⟨23,135,(tW (tW (tX (tY (.int .i64 j)) tZ) sa tZ) sn (tX (tX (tY (.int .i64 j2)) tZ) (tY (.ptr m 0 0)))),   [.code (cd P 23 [1,1,1,0,1,0,0,1,0,0,1,1,0,0,0]),.inLoop (cd P 23 [1,1,1,0,1,0,0,1,0,0,1,1,0,0,0]),.inBlock 2,.code (cd P 23 [1,1,1,0,1,0,0,1,0,0,1,1,1]),.inBlock 1,.code (cd P (23:FuncId) [1,1,1,0,1,0,0,1,1]),.inLoop (cd P (23:FuncId) [1,1,1,0,1,0,0]),.inBlock 0,.code (cd P (23:FuncId) [1,1,1,1])],[],.run,CallKind.normal,none⟩,rest,⟨O,N,G⟩⟩
noncomputable def zmW:AFrame:=⟨23,135,(tW (tW (tX (tW (tX tZ (tY (.int .i64 j2))) (.int .i64 j) (tX (tY sn2) tZ)) (tX (tX (tY (.int .i64 j2)) (tY (.int .i64 j))) (tX (tY (.ptr m 0 0)) tZ))) sa (tX (tX (tX tZ (tY (.str l1))) (tX (tY (.bool (decide (j2<z1)))) tZ)) (tX (tX (tY (.ptr m 0 0)) (tY (.str l2))) (tX (tY (.ptr m 0 2)) tZ)))) sn (tX (tX (tW (tX tZ (tY (.ptr i1 i2 i3))) (.int .i64 j2) (tX (tY (.int .i64 z1)) tZ)) (tX (tX (tY (.ptr m 0 0)) (tY (.ptr i4 i5 i6))) (tX (tY (.ptr m 0 0)) tZ))) (tW (tX (tX tZ (tY sn)) (tX (tY (.bool true)) tZ)) (.ptr m 0 0) (tX (tX (tY (.ptr m 0 2)) tZ) (tX (tY sn2) tZ))))),   [.drw (rg P 23 [1,1,1,0,1,0,0,1,0,0,1,1,0,0,0,0,0]) [19,20] [18,17,16,15,14,13,12,11,10,9,8,7,6,5,4,3,2,1,0],.code (cd P 23 [1,1,1,0,1,0,0,1,0,0,1,1,0,0,0,0,1]),.code (cd P 23 [1,1,1,0,1,0,0,1,0,0,1,1,0,0,0,1]),.inLoop (cd P (23:FuncId) [1,1,1,0,1,0,0,1,0,0,1,1,0,0,0]),.inBlock 2,.code (cd P (23:FuncId) [1,1,1,0,1,0,0,1,0,0,1,1,1]),.inBlock 1,.code (cd P (23:FuncId) [1,1,1,0,1,0,0,1,1]),.inLoop (cd P (23:FuncId) [1,1,1,0,1,0,0]),.inBlock 0,.code (cd P (23:FuncId) [1,1,1,1])],[],.run,CallKind.normal,none⟩
noncomputable def Wrea:AM:=⟨⟨23,135,(tW (tW (tX (tY (.int .i64 j)) tZ) sa tZ) sn (tX (tX (tY (.int .i64 j2)) tZ) (tY (.ptr m 0 0)))),   [.code (cd P (23:FuncId) [1,1,1,0,1,0,0,1,0,0,1,1,1]),.inBlock 1,.code (cd P (23:FuncId) [1,1,1,0,1,0,0,1,1]),.inLoop (cd P (23:FuncId) [1,1,1,0,1,0,0]),.inBlock 0,.code (cd P (23:FuncId) [1,1,1,1])],[],.run,CallKind.normal,none⟩,rest,⟨O,N,G⟩⟩
noncomputable def Wreb:AM:=⟨⟨23,135,(tW (tW (tX (tY (.int .i64 j)) tZ) sa tZ) sn (tX (tX (tY (.int .i64 j2)) tZ) (tY (.ptr m 0 0)))),   [.code (cd P 23 [1,1,1,0,1,0,0,1,0,0,1,1,1,1]),.inBlock 1,.code (cd P (23:FuncId) [1,1,1,0,1,0,0,1,1]),.inLoop (cd P (23:FuncId) [1,1,1,0,1,0,0]),.inBlock 0,.code (cd P (23:FuncId) [1,1,1,1])],[],.run,CallKind.normal,none⟩,rest,⟨O,N,G⟩⟩
end
section
variable {R:AV→AHeap→Prop} {keep N m i1c i2c i3c i4c i5c i6c:Nat} {f0:FuncId} {rest:List AFrame} {O:T AObj} {sn sa prq0 sn2 sa2:AV} {G:T (T AV)} {K:AM→Prop} {td:List AItem} {blq0:Bool} {j crq0 j2 z1c:Int} {l1c l2c:List UInt8}
theorem t_rec:(∃ (z1:Int) (z2:Int),(lN O N G 32 sn z1)∧(lN O N G 33 sa z2)∧(((z1 != z2))=true→(K (AM.mk (RF 23 135 (tX (tX tZ (tY (.int .i64 2))) (tX (tY .nilp) tZ)) [.code (cd P 23 [1,0,1,0,1]),.code (cd P 23 [1,1])]) rest ⟨O,N,G⟩)))∧(((z1 != z2))=false→(K (AM.mk (enF 62 [sa]) ((zpB sn sa)::rest) ⟨O,N,G⟩))))=OT f0 R keep K (.ex fun z1:Int=>(.ex fun z2:Int=>(.seq [.run 9,.hopn (.int .i64 z1) O (N),.run 1,.hopn (.int .i64 z2) O (N),.run 2] (.fork 16 (.seq [.run 12,.keep [4,5]] .fin) (.seq [.run 1,.keep [0,1,16,17],.run 1] .fin))))) ((AM.mk (enF 23 [sn,sa]) rest ⟨O,N,G⟩)):=by kernel_rfl
theorem zjv:((((!blq0))=true→(K (AM.mk (RF 23 135 (tX (tX tZ (tY (.int .i64 2))) (tX (tY .nilp) tZ)) [.code (cd P 62 [1,0,1,0,0,1,0,0,1,0,1]),.code (cd P (23:FuncId) [1,1])]) rest ⟨O,N,G⟩)))∧(((!blq0))=false→(∃ (O1:T AObj),(T.set ((some (.cells (tW (tW (tY (.nils 0 0)) (.str []) tZ) (.int .i64 7) (tW (tY .nilp) (.nils 0 0) tZ)) 5 44 0 0 1 0 false .leaf))) (O) (N)=O1)∧K (Wrec sn sa 0 N rest O1 (N+1) G))))=OT f0 R keep K (.seq [.run 4] (.fork 20 (.seq [.run 7,.keep [4,5]] .fin) (.ex fun O1:T AObj=>(.seq [.run 5,.hop (.nilp) O1,.run 9,.keep [0,1,6,7]] .fin)))) ((AM.mk (RF 62 16 (tX tZ (tY (.bool blq0))) td) ((zpB sn sa)::rest) ⟨O,N,G⟩)):=by kernel_rfl
theorem znq:(∃ (z1:Int),(lN O N G 32 sn z1)∧((decide (j<z1))=true→(∃ (i1:Nat) (i2:Nat) (i3:Nat) (l1:List UInt8),(iX 32 sn j i1 i2 i3)∧(lR O N G i1 i2 i3 (.str l1))∧K (AM.mk (enF 63 [.str l1]) ((znM sn sa j m l1)::rest) ⟨O,N,G⟩)))∧((decide (j<z1))=false→(K (AM.mk (enF 65 [.ptr m 0 0]) ((zm4 m)::rest) ⟨O,N,G⟩))))=OT f0 R keep K (.ex fun z1:Int=>(.seq [.run 5,.hopn (.int .i64 z1) O (N),.run 2] (.fork 26 (.ex fun i1:Nat=>(.ex fun i2:Nat=>(.ex fun i3:Nat=>(.ex fun l1:List UInt8=>(.seq [.run 9,.hopn (.ptr i1 i2 i3) O (N),.hop (.str l1) O,.keep [0,1,6,7,32],.run 1] .fin))))) (.seq [.run 5,.keep [131],.run 1] .fin)))) ((Wrec sn sa j m rest O N G)):=by kernel_rfl
theorem zir:((((!blq0))=true→(K (AM.mk (RF 23 135 (tX (tX tZ (tY (.int .i64 2))) (tX (tY .nilp) tZ)) [.code (cd P 63 [1,0,1,0,1]),.code (cd P (23:FuncId) [1,1,1,0,1,0,0,1,0,0,1]),.inBlock 1,.code (cd P (23:FuncId) [1,1,1,0,1,0,0,1,1]),.inLoop (cd P (23:FuncId) [1,1,1,0,1,0,0]),.inBlock 0,.code (cd P (23:FuncId) [1,1,1,1])]) rest ⟨O,N,G⟩)))∧(((!blq0))=false→(K (Wrei sn sa j 0 m rest O N G))))=OT f0 R keep K (.seq [.run 3] (.fork 34 (.seq [.run 7,.keep [4,5]] .fin) (.seq [.run 9,.keep [0,1,6,7,8]] .fin))) ((AM.mk (RF 63 41 (tX tZ (tY (.bool blq0))) td) ((znM sn sa j m l1c)::rest) ⟨O,N,G⟩)):=by kernel_rfl
theorem zcl:(K (AM.mk (RF 23 135 (tX (tX tZ (tY (.int .i64 crq0))) (tX (tY prq0) tZ)) [.code (cd P (23:FuncId) [1,0,1,0,1])]) rest ⟨O,N,G⟩))=OT f0 R keep K (.seq [.run 7,.keep [4,5]] .fin) ((AM.mk (RF 65 8 (tX (tX (tY (.int .i64 crq0)) tZ) (tY prq0)) td) ((zm4 m)::rest) ⟨O,N,G⟩)):=by kernel_rfl
theorem zmB:(∃ (z1:Int),(lC O N G m 2 sn2)∧(lN O N G 32 sn2 z1)∧((decide (j2<z1))=true→(∃ (i1:Nat) (i2:Nat) (i3:Nat) (l1:List UInt8) (i4:Nat) (i5:Nat) (i6:Nat) (l2:List UInt8),(lC O N G m 2 sn2)∧(iX 32 sn2 j2 i1 i2 i3)∧(lR O N G i1 i2 i3 (.str l1))∧(iX 32 sn j i4 i5 i6)∧(lR O N G i4 i5 i6 (.str l2))∧K (AM.mk (enF 64 [.str l1,.str l2]) ((zmW sn sa sn2 j j2 m i1 i2 i3 i4 i5 i6 z1 l1 l2)::rest) ⟨O,N,G⟩)))∧((decide (j2<z1))=false→(K (Wrea sn sa j j2 m rest O N G))))=OT f0 R keep K (.ex fun z1:Int=>(.seq [.run 7,.hop (sn2) O,.hopn (.int .i64 z1) O (N),.run 2] (.fork 42 (.ex fun i1:Nat=>(.ex fun i2:Nat=>(.ex fun i3:Nat=>(.ex fun l1:List UInt8=>(.ex fun i4:Nat=>(.ex fun i5:Nat=>(.ex fun i6:Nat=>(.ex fun l2:List UInt8=>(.seq [.run 3,.hop (sn2) O,.run 1,.hopn (.ptr i1 i2 i3) O (N),.hop (.str l1) O,.run 2,.hopn (.ptr i4 i5 i6) O (N),.hop (.str l2) O,.run 1] .fin))))))))) (.seq [.run 16,.keep [0,1,6,7,8]] .fin)))) ((Wrei sn sa j j2 m rest O N G)):=by kernel_rfl
theorem zis:(((blq0)=true→(K (Wrei sn sa j (IntKind.i64.wrap (j2+(1:Int))) m rest O N G)))∧((blq0)=false→(K (Wrea sn sa j j2 m rest O N G))))=OT f0 R keep K (.seq [.run 3] (.fork 55 (.seq [.run 10,.keep [0,1,6,7,8]] .fin) (.seq [.run 2,.keep [0,1,6,7,8]] .fin))) ((AM.mk (RF 64 37 (tX tZ (tX (tY (.bool blq0)) tZ)) td) ((zmW sn sa sn2 j j2 m i1c i2c i3c i4c i5c i6c z1c l1c l2c)::rest) ⟨O,N,G⟩)):=by kernel_rfl
theorem zmR:(∃ (z1:Int),(lC O N G m 2 sn2)∧(lN O N G 32 sn2 z1)∧((decide (j2<z1))=true→(∃ (i1:Nat) (i2:Nat) (i3:Nat) (l1:List UInt8) (i4:Nat) (i5:Nat) (i6:Nat) (l2:List UInt8),(lC O N G m 2 sn2)∧(iX 32 sn2 j2 i1 i2 i3)∧(lR O N G i1 i2 i3 (.str l1))∧(iX 32 sn j i4 i5 i6)∧(lR O N G i4 i5 i6 (.str l2))∧(((l1==l2))=true→(K (AM.mk (RF 23 135 (tX (tX tZ (tY (.int .i64 2))) (tX (tY .nilp) tZ)) [.code (cd P 23 [1,0,1,0,1]),.code (cd P 23 [1,1,1,0,1,0,0,1,0,0,1,1,1,1]),.inBlock 1,.code (cd P (23:FuncId) [1,1,1,0,1,0,0,1,1]),.inLoop (cd P (23:FuncId) [1,1,1,0,1,0,0]),.inBlock 0,.code (cd P (23:FuncId) [1,1,1,1])]) rest ⟨O,N,G⟩)))∧(((l1==l2))=false→(K (Wreb sn sa j j2 m rest O N G)))))∧((decide (j2<z1))=false→(K (Wreb sn sa j j2 m rest O N G))))=OT f0 R keep K (.ex fun z1:Int=>(.seq [.run 7,.hop (sn2) O,.hopn (.int .i64 z1) O (N),.run 2] (.fork 65 (.ex fun i1:Nat=>(.ex fun i2:Nat=>(.ex fun i3:Nat=>(.ex fun l1:List UInt8=>(.ex fun i4:Nat=>(.ex fun i5:Nat=>(.ex fun i6:Nat=>(.ex fun l2:List UInt8=>(.seq [.run 3,.hop (sn2) O,.run 1,.hopn (.ptr i1 i2 i3) O (N),.hop (.str l1) O,.run 2,.hopn (.ptr i4 i5 i6) O (N),.hop (.str l2) O,.run 3] (.fork 78 (.seq [.run 7,.keep [4,5]] .fin) (.seq [.run 2,.keep [0,1,6,7,8]] .fin))))))))))) (.seq [.run 16,.keep [0,1,6,7,8]] .fin)))) ((Wrea sn sa j j2 m rest O N G)):=by kernel_rfl
theorem zqz:(∃ (s1:AV) (s2:AV) (O1:T AObj) (N1:Nat) (i1:Nat) (i2:Nat) (i3:Nat) (l1:List UInt8) (O2:T AObj) (s3:AV) (O3:T AObj) (N2:Nat) (s4:AV) (s5:AV) (O4:T AObj) (N3:Nat) (O5:T AObj) (s6:AV) (s7:AV) (O6:T AObj) (N4:Nat) (i4:Nat) (i5:Nat) (i6:Nat) (s8:AV) (O7:T AObj) (s9:AV) (O8:T AObj) (N5:Nat) (s10:AV) (s11:AV) (O9:T AObj) (N6:Nat) (O10:T AObj),(lC O N G m 2 sn2)∧(xD P (⟨O,N,G⟩) (32) (sn2) (none) ((some j2)) (none)=(some s1))∧(zf P (⟨O,N,G⟩) (Builtin.append) ((some 32)) ((some 32)) ([.nils 0 0,s1])=(some (.val s2 ⟨O1,N1,G⟩)))∧(iX 32 sn j i1 i2 i3)∧(lR O1 N1 G i1 i2 i3 (.str l1))∧(zd P (⟨O1,N1,G⟩) (32) (1) ([(0,.str l1)])=(some (.slc N1 0 0 1 1,⟨O2,N1+1,G⟩)))∧(zf P (⟨O2,N1+1,G⟩) (Builtin.append) ((some 32)) ((some 32)) ([s2,.slc N1 0 0 1 1])=(some (.val s3 ⟨O3,N2,G⟩)))∧(lC O3 N2 G m 2 sn2)∧(xD P (⟨O3,N2,G⟩) (32) (sn2) ((some j2)) (none) (none)=(some s4))∧(zf P (⟨O3,N2,G⟩) (Builtin.append) ((some 32)) ((some 32)) ([s3,s4])=(some (.val s5 ⟨O4,N3,G⟩)))∧(s5.cells.length.beq (1)=true∧zc (⟨O4,N3,G⟩:AHeap) m (0) (2) s5.cells=some (⟨O5,N3,G⟩:AHeap))∧(lC O5 N3 G m 3 sa2)∧(xD P (⟨O5,N3,G⟩) (33) (sa2) (none) ((some j2)) (none)=(some s6))∧(zf P (⟨O5,N3,G⟩) (Builtin.append) ((some 33)) ((some 33)) ([.nils 0 0,s6])=(some (.val s7 ⟨O6,N4,G⟩)))∧(iX 33 sa j i4 i5 i6)∧(lR O6 N4 G i4 i5 i6 s8)∧(zd P (⟨O6,N4,G⟩) (33) (1) ([(0,s8)])=(some (.slc N4 0 0 1 1,⟨O7,N4+1,G⟩)))∧(zf P (⟨O7,N4+1,G⟩) (Builtin.append) ((some 33)) ((some 33)) ([s7,.slc N4 0 0 1 1])=(some (.val s9 ⟨O8,N5,G⟩)))∧(lC O8 N5 G m 3 sa2)∧(xD P (⟨O8,N5,G⟩) (33) (sa2) ((some j2)) (none) (none)=(some s10))∧(zf P (⟨O8,N5,G⟩) (Builtin.append) ((some 33)) ((some 33)) ([s9,s10])=(some (.val s11 ⟨O9,N6,G⟩)))∧(s11.cells.length.beq (1)=true∧zc (⟨O9,N6,G⟩:AHeap) m (0) (3) s11.cells=some (⟨O10,N6,G⟩:AHeap))∧K (Wrec sn sa (IntKind.i64.wrap (j+(1:Int))) m rest O10 N6 G))=OT f0 R keep K (.ex fun s1:AV=>(.ex fun s2:AV=>(.ex fun O1:T AObj=>(.ex fun N1:Nat=>(.ex fun i1:Nat=>(.ex fun i2:Nat=>(.ex fun i3:Nat=>(.ex fun l1:List UInt8=>(.ex fun O2:T AObj=>(.ex fun s3:AV=>(.ex fun O3:T AObj=>(.ex fun N2:Nat=>(.ex fun s4:AV=>(.ex fun s5:AV=>(.ex fun O4:T AObj=>(.ex fun N3:Nat=>(.ex fun O5:T AObj=>(.ex fun s6:AV=>(.ex fun s7:AV=>(.ex fun O6:T AObj=>(.ex fun N4:Nat=>(.ex fun i4:Nat=>(.ex fun i5:Nat=>(.ex fun i6:Nat=>(.ex fun s8:AV=>(.ex fun O7:T AObj=>(.ex fun s9:AV=>(.ex fun O8:T AObj=>(.ex fun N5:Nat=>(.ex fun s10:AV=>(.ex fun s11:AV=>(.ex fun O9:T AObj=>(.ex fun N6:Nat=>(.ex fun O10:T AObj=>(.seq [.run 10,.hop (sn2) O,.run 1,.hop (s1) O,.hopn (s2) O1 (N1),.run 7,.hopn (.ptr i1 i2 i3) O1 (N1),.hop (.str l1) O1,.hopn (.slc N1 0 0 1 1) O2 (N1+1),.hopn (s3) O3 (N2),.run 9,.hop (sn2) O3,.run 1,.hop (s4) O3,.hopn (s5) O4 (N3),.run 2,.hopn (.nilp) O5 (N3),.run 11,.hop (sa2) O5,.run 1,.hop (s6) O5,.hopn (s7) O6 (N4),.run 7,.hopn (.ptr i4 i5 i6) O6 (N4),.hop (s8) O6,.hopn (.slc N4 0 0 1 1) O7 (N4+1),.hopn (s9) O8 (N5),.run 8,.hop (sa2) O8,.run 1,.hop (s10) O8,.hopn (s11) O9 (N6),.run 2,.hopn (.nilp) O10 (N6),.run 8,.keep [0,1,6,7]] .fin))))))))))))))))))))))))))))))))))) ((Wreb sn sa j j2 m rest O N G)):=by kernel_rfl
end
variable {O O':T AObj} {N:Nat} {G:T (T AV)}
theorem litS (s:zi):∀ h:AHeap,zd P h 32 1 [(0,.str s)]=some (.slc h.next 0 0 1 1,xp h 9 (sE s) false):=fun h=>by kernel_rfl
theorem zpI (p:Option Nat):∀ h:AHeap,zd P h 33 1 [(0,pv p)]=some (.slc h.next 0 0 1 1,xp h 23 (pE p) false):=fun h=>by cases p <;> kernel_rfl
theorem zf2 {ns:List zi}{ts:List Ty}{ps:List (Option Nat)}{sn sa:AV}{hi:Nat}{mk:Nat→Prop}(hn:SV O 1 sE 0 hi ns sn)(hs:SV O 1 pE 0 hi ps sa)(hl:ps.length=ts.length)(hm:ts.length<1000000)(ht:∀ (j:Nat) (x:Ty) (p:Option Nat),ts[j]?=some x→ps[j]?=some p→Tra O hi mk x p)(hN:hi≤N)(hmN:∀ j,mk j→j<N){keep:Nat}{f0:FuncId}{Q:AV→AHeap→Prop}{rest:List AFrame}
 (hK:∀ O' N' td p',Ext O N O' N'→Tra O' N' mk (zfR ns ts).2 p'→Goal P keep f0 Q (AM.mk (RF 23 135 (tX (tX tZ (tY (.int .i64 (zfR ns ts).1))) (tX (tY (pv p')) tZ)) td) rest ⟨O',N',G⟩)):Goal P keep f0 Q (AM.mk (enF 23 [sn,sa]) rest ⟨O,N,G⟩):=by
 have bad:zfR ns ts=(2,.no)→∀ O' N' td,Ext O N O' N'→Goal P keep f0 Q (AM.mk (RF 23 135 (tX (tX tZ (tY (.int .i64 2))) (tX (tY .nilp) tZ)) td) rest ⟨O',N',G⟩):=fun e O' N' td ex=>by
  have:=hK O' N' td none ex (by rw [e]; exact Tra.nil)
  rw [e] at this
  exact this
 refine ot t_rec ⟨_,_,hn.len sSl _ _,hs.len pSl _ _,fun hc21=>?_,fun hc21=>?_⟩
 ·
  exact bad (by unfold zfR; rw [if_neg (fun h=>by have:=bne_iff_ne.1 hc21; omega)]) O N _ Ext.refl
 ·
  have hlen:ns.length=ts.length:=by
   have:=bne_eq_false_iff_eq.1 hc21
   omega
  refine zjm hs hl hm (fun j x p a b=>(ht j x p a b).tr) hN fun O1 N1 td1 ex1=>?_
  have nn1:=ex1.1
  refine ot zjv ⟨fun hc18=>?_,fun hc18=>?_⟩
  ·
   exact bad (by unfold zfR; rw [if_neg (fun h=>by rw [h.2] at hc18; cases hc18)]) O1 N1 _ ex1
  ·
   obtain ⟨OZ,e19,b19,f19⟩:=Obj.mk (c:=(tW (tW (tY (.nils 0 0)) (.str []) tZ) (.int .i64 7) (tW (tY .nilp) (.nils 0 0) tZ))) (el:=44) [(.int .i64 7),(.str []),(.nils 0 0),(.nils 0 0),.nilp] O1 N1 5 rfl (fun u hu=>by rcases u with _ | _ | _ | _ | _ | u <;> first | rfl | omega)
   refine ⟨OZ,e19,?_⟩
   have hok:ts.all (fun x=>chk x==0)=true:=by simpa using hc18
   have loop:∀ (k i:Nat) (M:Nat) (O2:T AObj) (N2:Nat) (xs:List zi) (us:List Ty) (qs:List (Option Nat)) (sn2 sa2:AV),i+k=ns.length→Ext O N O2 N2→N≤M→M<N2→Obj O2 M [.int .i64 7,.str [],sn2,sa2,.nilp]→SV O2 1 sE (M+1) N2 xs sn2→SV O2 1 pE (M+1) N2 qs sa2 →
    xs.length=us.length→qs.length=us.length→us.length≤i→(∀ x∈xs,zh x=true)→(∀ (j:Nat) (x:Ty) (p:Option Nat),us[j]?=some x→qs[j]?=some p→Tra O hi mk x p) →
    znb ns ts [] []=znb (ns.drop i) (ts.drop i) xs us→Goal P keep f0 Q (Wrec sn sa ((i:Nat):Int) M rest O2 N2 G):=by
    intro k
    induction k with
    | zero =>
     intro i M O2 N2 xs us qs sn2 sa2 hk ex hNM hMN ob vn va l1 l2 l3 hf hr hv
     have nn:=ex.1
     have hn2:=hn.keep (O':=O2) (fun j _ hj=>ex.2 j (by omega)) (Nat.le_refl 0) (Nat.le_refl hi)
     rw [List.drop_of_length_le (by omega),zhi] at hv
     have e7:zfR ns ts=zmq (.mk 7 [] xs us .no):=by
      unfold zfR
      rw [if_pos ⟨hlen,hok⟩,hv]
     refine ot znq ⟨_,hn2.len sSl _ _,fkf (decide_eq_false (by omega)) ?_⟩
     have node:Tra O2 N2 mk (.mk 7 [] xs us .no) (some M):=Tra.node hMN (fun h=>by have:=hmN _ h; omega) ob (vn.keep (fun _ _ _=>rfl) (Nat.zero_le _) (Nat.le_refl _)) (fun h hA=>by have:=(vn.sid_lt h).1; have:=hmN _ hA; omega) (va.keep (fun _ _ _=>rfl) (Nat.zero_le _) (Nat.le_refl _)) (fun h hA=>by have:=(va.sid_lt h).1; have:=hmN _ hA; omega) l2 (by omega) (by omega) (fun j x p a b=>(hr j x p a b).same (fun i h1 _=>ex.2 i (by omega)) (by omega)) Tra.nil
     refine zlm (p:=some M) node.tr (fun h td=>?_) (fun h td=>?_)
     · have e3:zfR ns ts=(3,.no):=by rw [e7]; unfold zmq; rw [if_pos h]
       have:=fun td=>hK O2 N2 td none ex (by rw [e3]; exact Tra.nil)
       rw [e3] at this
       exact ot zcl (this _)
     · have e3:zfR ns ts=(0,.mk 7 [] xs us .no):=by rw [e7]; unfold zmq; rw [if_neg (by omega)]
       have:=fun td=>hK O2 N2 td (some M) ex (by rw [e3]; exact node)
       rw [e3] at this
       exact ot zcl (this _)
    | succ k ih0 =>
     intro i M O2 N2 xs us qs sn2 sa2 hk ex hNM hMN ob vn va l1 l2 l3 hf hr hv
     have ih:=fun i=>fun O2 N2 xs us qs sn2 sa2 h1 h2 h3=>ih0 i M O2 N2 xs us qs sn2 sa2 h1 h2 hNM h3
     have nn:=ex.1
     have hn2:=hn.keep (O':=O2) (fun j _ hj=>ex.2 j (by omega)) (Nat.le_refl 0) (Nat.le_refl hi)
     have hs2:=hs.keep (O':=O2) (fun j _ hj=>ex.2 j (by omega)) (Nat.le_refl 0) (Nat.le_refl hi)
     obtain ⟨x,hx,hxm⟩:=nth (l:=ns) (j:=i) (by omega)
     obtain ⟨t,hxt,hxtm⟩:=nth (l:=ts) (j:=i) (by omega)
     obtain ⟨y,hy,_⟩:=nth (l:=ps) (j:=i) (by omega)
     rw [zx hx,zx hxt] at hv
     rw [zed] at hv
     refine ot znq ⟨_,hn2.len sSl _ _,fkt (decide_eq_true (by omega)) ?_⟩
     obtain ⟨i1,i2,i3,lo15,hi15,eA15,rd15,_⟩:=hn2.at sSl sEn hx
     refine ⟨i1,i2,i3,_,eA15,rd15.load rfl _ _,?_⟩
     refine znX x fun td1=>?_
     refine ot zir ⟨fun hc14=>?_,fun hc14=>?_⟩
     ·
      rw [if_neg (by simpa using hc14)] at hv
      exact bad (by unfold zfR; rw [if_pos ⟨hlen,hok⟩,hv]) O2 N2 _ ex
     ·
      have hfx:zh x=true:=by simpa using hc14
      have hx24:=yO hfx
      rw [if_pos hfx] at hv
      have after:∀ a,zdE (fun z=>Op.bytesLess z x) xs=a→Goal P keep f0 Q (Wrea sn sa ((i:Nat):Int) ((a:Nat):Int) M rest O2 N2 G):=by
       intro a hua
       have hal:a≤xs.length:=hua▸zdJ
       rw [hua] at hv
       have insd:xs[a]?≠some x→Goal P keep f0 Q (Wreb sn sa ((i:Nat):Int) ((a:Nat):Int) M rest O2 N2 G):=by
        intro hne
        rw [if_neg hne] at hv
        obtain ⟨r1,r2,r3,lor,hir,eR,rdR,_⟩:=hn2.at sSl sEn hx
        obtain ⟨p1,p2,p3,lop,hip,eP,rdP,_⟩:=hs2.at pSl pEn hy
        obtain ⟨s1,O3,N3,s2,O4,O5,N4,s3,s4,O6,N5,s5,a1,a2,a3,a4,a5,a6,g6,m1,m2,m3,f3,f5,f6⟩:=zbq sSl sEn vn (Nat.le_refl _) hal x (litS x) (by omega) G
        have ob5:=ob.same (f5 M hMN)
        have ob6:=ob.same (f6 M hMN)
        obtain ⟨O7,st7,ob7,fr7⟩:=ob6.store 2 [s5] N5 G (Nat.le_of_ble_eq_true rfl) (by simp only [List.all_cons,List.all_nil,Bool.and_true]; exact (g6.sv sEn).one)
        have va7:=va.keep (O':=O7) (lo':=M+1) (hi':=N5) (fun j h1 h2=>(fr7 j (by omega)).trans (f6 j h2)) (Nat.le_refl _) (by omega)
        obtain ⟨t1,O8,N6,t2,O9,OA,N7,t3,t4,OB,N8,t5,c1,c2,c3,c4,c5,c6,g9,m4,m5,m6,f8,fA,fB⟩:=zbq pSl pEn va7 (Nat.le_refl _) (a:=a) (by omega) y (zpI y) (by omega) G
        have obA:=ob7.same (fA M (by omega))
        have obB:=ob7.same (fB M (by omega))
        obtain ⟨OC,stC,obC,frC⟩:=obB.store 3 [t5] N8 G (Nat.le_of_ble_eq_true rfl) (by simp only [List.all_cons,List.all_nil,Bool.and_true]; exact (g9.sv pEn).one)
        have low7:∀ j,j<N2→j≠M→O7.get j=O2.get j:=fun j h1 h2=>(fr7 j h2).trans (f6 j h1)
        have lowC:∀ j,j<N2→j≠M→OC.get j=O2.get j:=fun j h1 h2=>(frC j h2).trans ((fB j (by omega)).trans (low7 j h1 h2))
        have exC:Ext O N OC N8:=⟨by omega,fun j hj=>(lowC j (by omega) (by omega)).trans (ex.2 j hj)⟩
        have nx:=ih (i+1) OC N8 (ins a x xs) (ins a t us) (ins a y qs) s5 t5 (by omega) exC (by omega) obC
         ((g6.sv sEn).same (fun h=>(frC _ (by have:=((g6.sv sEn).sid_lt h).1; omega)).trans ((fB _ ((g6.sv sEn).sid_lt h).2).trans (fr7 _ (by have:=((g6.sv sEn).sid_lt h).1; omega)))) (by omega) (by omega))
         ((g9.sv pEn).same (fun h=>frC _ (by have:=((g9.sv pEn).sid_lt h).1; omega)) (by omega) (Nat.le_refl _))
         (by rw [qf hal,qf (by omega)]; omega) (by rw [qf (by omega),qf (by omega)]; omega) (by rw [qf (by omega)]; omega)
         (fun z hz=>(zd0.1 hz).elim (fun h=>h▸hfx) (hf z)) (zkU l2 (by omega) (ht i t y hxt hy) hr) hv
        rw [← zC (i:=i) (by omega)] at nx
        exact ot zqz ⟨_,_,_,_,_,_,_,_,_,_,_,_,_,_,_,_,_,_,_,_,_,_,_,_,_,_,_,_,_,_,_,_,_,_,ob.ld 2 rfl,a1,a2,eR,(rdR.same (f3 _ (by omega))).load rfl _ _,a3,a4,ob5.ld 2 rfl,a5,a6,(by rw [(g6.sv sEn).cells]; exact ⟨rfl,st7⟩),ob7.ld 3 rfl,c1,c2,eP,(rdP.same ((f8 _ (by omega)).trans (low7 _ (by omega) (by omega)))).load rfl _ _,c3,c4,obA.ld 3 rfl,c5,c6,(by rw [(g9.sv pEn).cells]; exact ⟨rfl,stC⟩),nx⟩
       have full:xs[a]?=some x→zfR ns ts=(2,.no):=fun he=>by
        rw [if_pos he] at hv
        unfold zfR
        rw [if_pos ⟨hlen,hok⟩,hv]
       by_cases hla:a<xs.length
       · obtain ⟨z,hz,_⟩:=nth (l:=xs) (j:=a) hla
         refine ot (zmR (sn2:=sn2)) ⟨_,ob.ld 2 rfl,vn.len sSl _ _,fkt (decide_eq_true (by omega)) ?_⟩
         obtain ⟨i1,i2,i3,lo4,hi4,eA4,rd4,_⟩:=vn.at sSl sEn hz
         obtain ⟨i4,i5,i6,lo5,hi5,eA5,rd5,_⟩:=hn2.at sSl sEn hx
         refine ⟨i1,i2,i3,_,i4,i5,i6,_,ob.ld 2 rfl,eA4,rd4.load rfl _ _,eA5,rd5.load rfl _ _,fun hc6=>?_,fun hc6=>?_⟩
         ·
          exact bad (full (by rw [hz,eq_of_beq hc6])) O2 N2 _ ex
         ·
          exact insd (by rw [hz]; intro h; injection h with h; rw [h] at hc6; simp at hc6)
       · skip
         refine ot (zmR (sn2:=sn2)) ⟨_,ob.ld 2 rfl,vn.len sSl _ _,fkf (decide_eq_false (by omega)) ?_⟩
         exact insd (by rw [List.getElem?_eq_none (by omega)]; simp)
      have inner:∀ (k' a:Nat),a+k'=xs.length→(∀ k,k<a→∃ z,xs[k]?=some z∧Op.bytesLess z x=true)→Goal P keep f0 Q (Wrei sn sa ((i:Nat):Int) ((a:Nat):Int) M rest O2 N2 G):=by
       intro k'
       induction k' with
       | zero =>
        intro a hk' hbel
        have nx:=after a (zba hbel (.inl (by omega)))
        refine ot (zmB (sn2:=sn2)) ⟨_,ob.ld 2 rfl,vn.len sSl _ _,fkf (decide_eq_false (by omega)) ?_⟩
        exact nx
       | succ k' ih' =>
        intro a hk' hbel
        obtain ⟨z,hz,hzm⟩:=nth (l:=xs) (j:=a) (by omega)
        have hz24:=yO (hf z hzm)
        refine ot (zmB (sn2:=sn2)) ⟨_,ob.ld 2 rfl,vn.len sSl _ _,fkt (decide_eq_true (by omega)) ?_⟩
        obtain ⟨i1,i2,i3,lo10,hi10,eA10,rd10,_⟩:=vn.at sSl sEn hz
        obtain ⟨i4,i5,i6,lo11,hi11,eA11,rd11,_⟩:=hn2.at sSl sEn hx
        refine ⟨i1,i2,i3,_,i4,i5,i6,_,ob.ld 2 rfl,eA10,rd10.load rfl _ _,eA11,rd11.load rfl _ _,?_⟩
        refine zhO z x (by omega) (by omega) fun td2=>?_
        refine ot zis ⟨fun hc2=>?_,fun hc2=>?_⟩
        ·
         have nx:=ih' (a+1) (by omega) (fun k hk=>by
          by_cases hka:k=a
          · exact ⟨z,hka▸hz,hc2⟩
          · exact hbel k (by omega))
         rw [← zC (i:=a) (by omega)] at nx
         exact nx
        ·
         exact after a (zba hbel (.inr ⟨z,hz,hc2⟩))
      exact inner xs.length 0 (Nat.zero_add _) (fun k h=>absurd h (Nat.not_lt_zero _))
   exact loop ns.length 0 _ _ _ [] [] [] _ _ (Nat.zero_add _) ⟨by omega,fun j hj=>(f19 j (by omega)).trans (ex1.2 j hj)⟩ nn1 (Nat.lt_succ_self _) b19 SV.nil SV.nil rfl rfl (Nat.le_refl _) (fun x h=>by cases h) (fun j x p h=>by simp at h) (by rw [List.drop_zero,List.drop_zero])
end Go.Proofs.Ytcdigdplhlgcaaa.gx
end
section
set_option maxRecDepth 100000
set_option linter.unusedVariables false
set_option linter.unusedSectionVars false
namespace Go.Proofs.Ytcdigdplhlgcaaa.gx
open Go Ev tp
variable {O O':T AObj} {N hi hi':Nat} {mk:Nat→Prop} {G:T (T AV)}
theorem je {α:Type}{l:List α}{i:Nat}{x:α}(h:l[i]?=some x):l.take (i+1)=l.take i++[x]:=by
 obtain ⟨h1,h2⟩:=List.getElem?_eq_some_iff.1 h
 rw [List.take_add_one,h]
 rfl
theorem zcZ {α β:Type}{R:α→β→Prop}{l:List α}{m:List β}(hl:m.length=l.length)(h:∀ (j:Nat) x y,l[j]?=some x→m[j]?=some y→R x y){l':List α}{m':List β}(h':∀ (j:Nat) x y,l'[j]?=some x→m'[j]?=some y→R x y)(j:Nat)(x:α)(y:β)(a:(l++l')[j]?=some x)(b:(m++m')[j]?=some y):R x y:=by
 by_cases hj:j<l.length
 · rw [List.getElem?_append_left hj] at a
   rw [List.getElem?_append_left (by omega)] at b
   exact h j x y a b
 · rw [List.getElem?_append_right (by omega)] at a b
   rw [hl] at b
   exact h' _ x y a b
theorem zcV:∀ {l:List Ty},(∀ z∈l,1≤cnt z)→l.length≤qE l
 | [],_=>Nat.zero_le _
 | x::l,h=>by
  have:=zcV (l:=l) fun z hz=>h z (List.mem_cons_of_mem _ hz)
  have:=h x List.mem_cons_self
  rw [kL,List.length_cons]
  omega
theorem SV.lenE {α:Type}{sz:Nat}{enc:α→List AV}{st el:TypeId}{by' lo hi:Nat}(S:SlT st el sz by'){xs:List α}{s:AV}(h:SV O sz enc lo hi xs s){n:Nat}(e:xs.length=n)(N:Nat)(G:T (T AV)):zI P ⟨O,N,G⟩ .len (some st) [s]=some (.int .i64 ((n:Nat):Int)):=e▸h.len S N G
theorem Tra.self {t:Ty}{p:Option Nat}(h:Tra O hi mk t p)(hh:hi≤hi'):Tra O hi' mk t p:=h.same (fun _ _ _=>rfl) hh
end Go.Proofs.Ytcdigdplhlgcaaa.gx
end
section
set_option maxRecDepth 100000
set_option linter.unusedVariables false
set_option linter.unusedSectionVars false
set_option linter.unusedSimpArgs false
namespace Go.Proofs.Ytcdigdplhlgcaaa.gx
open Go Ev tp
section
variable (sa:AV) (j j2:Int) (sl sl2:AV) (rest:List AFrame) (O:T AObj) (N:Nat) (G:T (T AV)) (i1 i2 i3 i4 i5 i6:Nat) (s1 s2:AV) (z1:Int) (lrq0 lrq1:List UInt8) (i1c i2c i3c i4c i5c i6c:Nat) (s1c s2c:AV) (z1c:Int)
noncomputable def zqh:AFrame:=⟨26,129,(tW (tX tZ (tX tZ (tY (.bool false)))) sa (tX tZ (tX tZ (tY sa)))),   [.ops (rg P 26 [1,0,0]).toList ((rg P 26 [1,0,0]).toList.drop 5),.code (cd P 26 [1,0,1]),.code (cd P 26 [1,1])],[],.run,CallKind.normal,none⟩
noncomputable def zpn:AM:=⟨⟨26,129,(tW (tX tZ (tY (.int .i64 j))) sa (tX (tY sl) tZ)),   [.code (cd P 26 [1,1,1,0,1,0,0]),.inLoop (cd P 26 [1,1,1,0,1,0,0]),.inBlock 0,.code (cd P 26 [1,1,1,1])],[],.run,CallKind.normal,none⟩,rest,⟨O,N,G⟩⟩
noncomputable def zpe:AM:=⟨⟨26,129,(tX (tX (tX (tY (.int .i64 j)) tZ) tZ) (tX (tY sl) (tY sl2))),   [.code (cd P 26 [1,1,1,1,1,0,1,0,0]),.inLoop (cd P 26 [1,1,1,1,1,0,1,0,0]),.inBlock 2,.code (cd P 26 [1,1,1,1,1,1])],[],.run,CallKind.normal,none⟩,rest,⟨O,N,G⟩⟩
noncomputable def Wunc:AM:=⟨⟨26,129,(tX (tX (tX (tY (.int .i64 j)) tZ) tZ) (tX (tW (tY (.int .i64 j2)) sl tZ) (tY sl2))),   [.code (cd P 26 [1,1,1,1,1,0,1,0,0,1,0,0,1,0,0,0]),.inLoop (cd P 26 [1,1,1,1,1,0,1,0,0,1,0,0,1,0,0,0]),.inBlock 4,.code (cd P 26 [1,1,1,1,1,0,1,0,0,1,0,0,1,1]),.inBlock 3,.code (cd P 26 [1,1,1,1,1,0,1,0,0,1,1]),.inLoop (cd P (26:FuncId) [1,1,1,1,1,0,1,0,0]),.inBlock 2,.code (cd P (26:FuncId) [1,1,1,1,1,1])],[],.run,CallKind.normal,none⟩,rest,⟨O,N,G⟩⟩
noncomputable def Wund:AM:=⟨⟨26,129,(tX tZ (tX tZ (tY sl2))),   [.code (cd P (26:FuncId) [1,1,1,1,1,1])],[],.run,CallKind.normal,none⟩,rest,⟨O,N,G⟩⟩
noncomputable def zm5:AFrame:=⟨26,129,(tX (tX (tX (tW tZ (.int .i64 j) (tX (tX (tY (.ptr i1 i2 i3)) tZ) tZ)) (tX (tX (tX (tY (.bool (decide (j2<z1)))) tZ) tZ) (tX (tX (tY (.int .i64 j)) tZ) tZ))) (tX (tX (tX (tX (tY sl2) tZ) tZ) tZ) (tX (tX (tX (tY sl2) tZ) tZ) (tX (tX (tY s2) tZ) tZ)))) (tX (tW (tW (tX (tX (tY (.int .i64 j2)) tZ) tZ) (.int .i64 j2) (tX (tX (tY s1) tZ) tZ)) sl (tX (tX (tX (tY (.bool true)) tZ) tZ) (tX (tX (tY (.ptr i4 i5 i6)) tZ) tZ))) (tW (tX (tX (tX (tY (.int .i64 z1)) tZ) tZ) (tX (tX (tY sl) tZ) tZ)) sl2 (tX (tX (tX (tY (.int .i64 j2)) tZ) tZ) tZ)))),   [.drw (rg P 26 [1,1,1,1,1,0,1,0,0,1,0,0,1,0,0,0,0,0]) [9,14,15,16] [13,12,11,10,8,7,6,5,4,3,2,1,0],.code (cd P 26 [1,1,1,1,1,0,1,0,0,1,0,0,1,0,0,0,0,1]),.code (cd P 26 [1,1,1,1,1,0,1,0,0,1,0,0,1,0,0,0,1]),.inLoop (cd P (26:FuncId) [1,1,1,1,1,0,1,0,0,1,0,0,1,0,0,0]),.inBlock 4,.code (cd P (26:FuncId) [1,1,1,1,1,0,1,0,0,1,0,0,1,1]),.inBlock 3,.code (cd P (26:FuncId) [1,1,1,1,1,0,1,0,0,1,1]),.inLoop (cd P (26:FuncId) [1,1,1,1,1,0,1,0,0]),.inBlock 2,.code (cd P (26:FuncId) [1,1,1,1,1,1])],[],.run,CallKind.normal,none⟩
noncomputable def Wune:AM:=⟨⟨26,129,(tX (tX (tX (tY (.int .i64 j)) tZ) tZ) (tX (tW (tY (.int .i64 j2)) sl tZ) (tY sl2))),   [.code (cd P (26:FuncId) [1,1,1,1,1,0,1,0,0,1,0,0,1,1]),.inBlock 3,.code (cd P (26:FuncId) [1,1,1,1,1,0,1,0,0,1,1]),.inLoop (cd P (26:FuncId) [1,1,1,1,1,0,1,0,0]),.inBlock 2,.code (cd P (26:FuncId) [1,1,1,1,1,1])],[],.run,CallKind.normal,none⟩,rest,⟨O,N,G⟩⟩
noncomputable def zel:AFrame:=⟨26,129,(tX (tX (tX (tW tZ (.int .i64 j) (tX (tX (tY (.ptr i1c i2c i3c)) tZ) tZ)) (tX (tX (tX (tY (.bool (decide (j2<z1c)))) tZ) tZ) (tX (tX (tY (.int .i64 j)) tZ) tZ))) (tX (tX (tX (tX (tY sl2) tZ) tZ) (tX (tX (tY (.str lrq0)) tZ) tZ)) (tX (tX (tX (tY sl2) tZ) tZ) (tX (tX (tY s2c) tZ) tZ)))) (tX (tW (tW (tX (tX (tY (.int .i64 j2)) tZ) tZ) (.int .i64 j2) (tX (tX (tY s1c) tZ) tZ)) sl (tX (tX (tX (tY (.bool true)) tZ) tZ) (tX (tX (tY (.ptr i4c i5c i6c)) tZ) tZ))) (tW (tX (tX (tX (tY (.int .i64 z1c)) tZ) tZ) (tX (tX (tY sl) tZ) tZ)) sl2 (tX (tX (tX (tY (.int .i64 j2)) tZ) tZ) tZ)))),   [.drw (rg P (26:FuncId) [1,1,1,1,1,0,1,0,0,1,0,0,1,0,0,0,0,0]) [14,15,16] [9,13,12,11,10,8,7,6,5,4,3,2,1,0],.code (cd P (26:FuncId) [1,1,1,1,1,0,1,0,0,1,0,0,1,0,0,0,0,1]),.code (cd P (26:FuncId) [1,1,1,1,1,0,1,0,0,1,0,0,1,0,0,0,1]),.inLoop (cd P (26:FuncId) [1,1,1,1,1,0,1,0,0,1,0,0,1,0,0,0]),.inBlock 4,.code (cd P (26:FuncId) [1,1,1,1,1,0,1,0,0,1,0,0,1,1]),.inBlock 3,.code (cd P (26:FuncId) [1,1,1,1,1,0,1,0,0,1,1]),.inLoop (cd P (26:FuncId) [1,1,1,1,1,0,1,0,0]),.inBlock 2,.code (cd P (26:FuncId) [1,1,1,1,1,1])],[],.run,CallKind.normal,none⟩
noncomputable def jR:AFrame:=⟨26,129,(tX (tX (tX (tW tZ (.int .i64 j) (tX (tX (tY (.ptr i1c i2c i3c)) tZ) tZ)) (tX (tX (tX (tY (.bool (decide (j2<z1c)))) tZ) tZ) (tX (tX (tY (.int .i64 j)) tZ) tZ))) (tX (tX (tX (tX (tY sl2) tZ) tZ) (tX (tX (tY (.str lrq0)) tZ) tZ)) (tX (tX (tX (tY sl2) tZ) tZ) (tX (tX (tY s2c) tZ) tZ)))) (tX (tW (tW (tX (tX (tY (.int .i64 j2)) tZ) tZ) (.int .i64 j2) (tX (tX (tY s1c) tZ) tZ)) sl (tX (tX (tX (tY (.bool true)) tZ) tZ) (tX (tX (tY (.ptr i4c i5c i6c)) tZ) tZ))) (tW (tX (tX (tX (tY (.int .i64 z1c)) tZ) tZ) (tX (tX (tY sl) tZ) tZ)) sl2 (tX (tX (tX (tY (.int .i64 j2)) tZ) tZ) (tX (tX (tY (.str lrq1)) tZ) tZ))))),   [.drw (rg P (26:FuncId) [1,1,1,1,1,0,1,0,0,1,0,0,1,0,0,0,0,0]) [15,16] [14,9,13,12,11,10,8,7,6,5,4,3,2,1,0],.code (cd P (26:FuncId) [1,1,1,1,1,0,1,0,0,1,0,0,1,0,0,0,0,1]),.code (cd P (26:FuncId) [1,1,1,1,1,0,1,0,0,1,0,0,1,0,0,0,1]),.inLoop (cd P (26:FuncId) [1,1,1,1,1,0,1,0,0,1,0,0,1,0,0,0]),.inBlock 4,.code (cd P (26:FuncId) [1,1,1,1,1,0,1,0,0,1,0,0,1,1]),.inBlock 3,.code (cd P (26:FuncId) [1,1,1,1,1,0,1,0,0,1,1]),.inLoop (cd P (26:FuncId) [1,1,1,1,1,0,1,0,0]),.inBlock 2,.code (cd P (26:FuncId) [1,1,1,1,1,1])],[],.run,CallKind.normal,none⟩
noncomputable def znB:AFrame:=⟨26,129,(tX (tX (tX (tW (tX (tX tZ (tY (.ptr i4 i5 i6))) tZ) (.int .i64 j) (tX tZ (tX (tY (.bool true)) tZ))) (tX (tX tZ (tX (tY (.int .i64 j2)) tZ)) (tX tZ (tX (tY s1) tZ)))) (tX (tX tZ (tX tZ (tX (tY (.int .i64 j2)) tZ))) (tX (tX tZ (tX (tY (.int .i64 z1)) tZ)) (tX tZ (tX (tY sl) tZ))))) (tX (tW (tW (tX (tX tZ (tY s2)) tZ) (.int .i64 j2) (tX tZ (tX (tY sl2) tZ))) sl (tX (tX tZ (tX (tY sl2) tZ)) tZ)) (tW (tX tZ (tX tZ (tX (tY (.ptr i1 i2 i3)) tZ))) sl2 (tX (tX tZ (tX (tY (.bool (decide (j2<z1)))) tZ)) (tX tZ (tX (tY (.int .i64 j)) tZ)))))),   [.drw (rg P 26 [1,1,1,1,1,0,1,0,0,1,0,0,1,1,0,0]) [9,14,15,16] [13,12,11,10,8,7,6,5,4,3,2,1,0],.code (cd P 26 [1,1,1,1,1,0,1,0,0,1,0,0,1,1,0,1]),.code (cd P 26 [1,1,1,1,1,0,1,0,0,1,0,0,1,1,1]),.inBlock 3,.code (cd P (26:FuncId) [1,1,1,1,1,0,1,0,0,1,1]),.inLoop (cd P (26:FuncId) [1,1,1,1,1,0,1,0,0]),.inBlock 2,.code (cd P (26:FuncId) [1,1,1,1,1,1])],[],.run,CallKind.normal,none⟩
noncomputable def Wunf:AM:=⟨⟨26,129,(tX (tX (tX (tY (.int .i64 j)) tZ) tZ) (tX (tW (tY (.int .i64 j2)) sl tZ) (tY sl2))),   [.code (cd P 26 [1,1,1,1,1,0,1,0,0,1,0,0,1,1,1]),.inBlock 3,.code (cd P (26:FuncId) [1,1,1,1,1,0,1,0,0,1,1]),.inLoop (cd P (26:FuncId) [1,1,1,1,1,0,1,0,0]),.inBlock 2,.code (cd P (26:FuncId) [1,1,1,1,1,1])],[],.run,CallKind.normal,none⟩,rest,⟨O,N,G⟩⟩
noncomputable def zfp:AFrame:=⟨26,129,(tX (tX (tX (tW (tX (tX tZ (tY (.ptr i4c i5c i6c))) tZ) (.int .i64 j) (tX tZ (tX (tY (.bool true)) tZ))) (tX (tX tZ (tX (tY (.int .i64 j2)) tZ)) (tX tZ (tX (tY s1c) tZ)))) (tX (tX tZ (tX tZ (tX (tY (.int .i64 j2)) tZ))) (tX (tX tZ (tX (tY (.int .i64 z1c)) tZ)) (tX tZ (tX (tY sl) tZ))))) (tX (tW (tW (tX (tX tZ (tY s2c)) tZ) (.int .i64 j2) (tX tZ (tX (tY sl2) tZ))) sl (tX (tX tZ (tX (tY sl2) tZ)) (tX tZ (tX (tY (.str lrq0)) tZ)))) (tW (tX tZ (tX tZ (tX (tY (.ptr i1c i2c i3c)) tZ))) sl2 (tX (tX tZ (tX (tY (.bool (decide (j2<z1c)))) tZ)) (tX tZ (tX (tY (.int .i64 j)) tZ)))))),   [.drw (rg P (26:FuncId) [1,1,1,1,1,0,1,0,0,1,0,0,1,1,0,0]) [14,15,16] [9,13,12,11,10,8,7,6,5,4,3,2,1,0],.code (cd P (26:FuncId) [1,1,1,1,1,0,1,0,0,1,0,0,1,1,0,1]),.code (cd P (26:FuncId) [1,1,1,1,1,0,1,0,0,1,0,0,1,1,1]),.inBlock 3,.code (cd P (26:FuncId) [1,1,1,1,1,0,1,0,0,1,1]),.inLoop (cd P (26:FuncId) [1,1,1,1,1,0,1,0,0]),.inBlock 2,.code (cd P (26:FuncId) [1,1,1,1,1,1])],[],.run,CallKind.normal,none⟩
noncomputable def znN:AFrame:=⟨26,129,(tX (tX tZ (tX tZ (tX tZ (tX tZ (tX tZ (tY (.ptr N 0 0))))))) tZ),   [.ops (rg P 26 [1,1,1,1,1,1,1,0]).toList ((rg P 26 [1,1,1,1,1,1,1,0]).toList.drop 3),.code (cd P 26 [1,0,1,0,1])],[],.run,CallKind.normal,none⟩
end
section
variable {R:AV→AHeap→Prop} {keep N q i1c i2c i3c i4c i5c i6c Nc:Nat} {f0:FuncId} {rest:List AFrame} {O:T AObj} {sa sl sa2 sl2 s1c s2c prq0:AV} {G:T (T AV)} {K:AM→Prop} {td:List AItem} {blq0 blq2:Bool} {j k2 j2 z1c crq0:Int} {lrq0 lrq1:List UInt8}
theorem t_uni:(∃ (z1:Int),(lN O N G 33 sa z1)∧(((z1==(0:Int)))=true→(K (AM.mk (RF 26 129 (tX (tX (tY (.int .i64 2)) tZ) (tY .nilp)) [.code (cd P 26 [1,0,1,0,1]),.code (cd P 26 [1,1])]) rest ⟨O,N,G⟩)))∧(((z1==(0:Int)))=false→(K (AM.mk (enF 62 [sa]) ((zqh sa)::rest) ⟨O,N,G⟩))))=OT f0 R keep K (.ex fun z1:Int=>(.seq [.run 9,.hopn (.int .i64 z1) O (N),.run 2] (.fork 13 (.seq [.run 12,.keep [2,3]] .fin) (.seq [.run 1,.keep [0,13,14],.run 1] .fin)))) ((AM.mk (enF 26 [sa]) rest ⟨O,N,G⟩)):=by kernel_rfl
theorem zk0:((((!blq0))=true→(K (AM.mk (RF 26 129 (tX (tX (tY (.int .i64 2)) tZ) (tY .nilp)) [.code (cd P 62 [1,0,1,0,0,1,0,0,1,0,1]),.code (cd P (26:FuncId) [1,1])]) rest ⟨O,N,G⟩)))∧(((!blq0))=false→(K (zpn sa 0 (.nils 0 0) rest O N G))))=OT f0 R keep K (.seq [.run 4] (.fork 17 (.seq [.run 7,.keep [2,3]] .fin) (.seq [.run 13,.keep [0,4,5]] .fin))) ((AM.mk (RF 62 16 (tX tZ (tY (.bool blq0))) td) ((zqh sa)::rest) ⟨O,N,G⟩)):=by kernel_rfl
theorem zmH:(∃ (z1:Int),(lN O N G 33 sa z1)∧((decide (j<z1))=true→(∃ (i1:Nat) (i2:Nat) (i3:Nat),(iX 33 sa j i1 i2 i3)∧(lR O N G i1 i2 i3 (.ptr q 0 0))∧(lC O N G q 0 (.int .i64 k2))∧(((k2==(1:Int)))=true→(∃ (O1:T AObj),(T.set ((some (.cells (tW (tW (tY (.nils 0 0)) (.str []) tZ) (.int .i64 1) (tW (tY .nilp) (.nils 0 0) tZ)) 5 44 0 0 1 0 false .leaf))) (O) (N)=O1)∧K (AM.mk (RF 26 129 (tX (tX (tY (.int .i64 0)) tZ) (tY (.ptr N 0 0))) [.code (cd P 26 [1,0,1,0,1]),.code (cd P 26 [1,1,1,0,1,0,0,1,0,0,1]),.inBlock 1,.code (cd P 26 [1,1,1,0,1,0,0,1,1]),.inLoop (cd P (26:FuncId) [1,1,1,0,1,0,0]),.inBlock 0,.code (cd P (26:FuncId) [1,1,1,1])]) rest ⟨O1,N+1,G⟩)))∧(((k2==(1:Int)))=false→(∃ (i4:Nat) (i5:Nat) (i6:Nat),(iX 33 sa j i4 i5 i6)∧(lR O N G i4 i5 i6 (.ptr q 0 0))∧(lC O N G q 0 (.int .i64 k2))∧(((k2==(9:Int)))=true→(∃ (i7:Nat) (i8:Nat) (i9:Nat) (s1:AV) (O1:T AObj) (N1:Nat),(iX 33 sa j i7 i8 i9)∧(lR O N G i7 i8 i9 (.ptr q 0 0))∧(lC O N G q 3 sa2)∧(zf P (⟨O,N,G⟩) (Builtin.append) ((some 33)) ((some 33)) ([sl,sa2])=(some (.val s1 ⟨O1,N1,G⟩)))∧K (zpn sa (IntKind.i64.wrap (j+(1:Int))) s1 rest O1 N1 G)))∧(((k2==(9:Int)))=false→(∃ (i7:Nat) (i8:Nat) (i9:Nat) (O1:T AObj) (s1:AV) (O2:T AObj) (N1:Nat),(iX 33 sa j i7 i8 i9)∧(lR O N G i7 i8 i9 (.ptr q 0 0))∧(zd P (⟨O,N,G⟩) (33) (1) ([(0,.ptr q 0 0)])=(some (.slc N 0 0 1 1,⟨O1,N+1,G⟩)))∧(zf P (⟨O1,N+1,G⟩) (Builtin.append) ((some 33)) ((some 33)) ([sl,.slc N 0 0 1 1])=(some (.val s1 ⟨O2,N1,G⟩)))∧K (zpn sa (IntKind.i64.wrap (j+(1:Int))) s1 rest O2 N1 G)))))))∧((decide (j<z1))=false→(K (zpe 0 sl (.nils 0 0) rest O N G))))=OT f0 R keep K (.ex fun z1:Int=>(.seq [.run 5,.hopn (.int .i64 z1) O (N),.run 2] (.fork 21 (.ex fun i1:Nat=>(.ex fun i2:Nat=>(.ex fun i3:Nat=>(.seq [.run 9,.hopn (.ptr i1 i2 i3) O (N),.hop (.ptr q 0 0) O,.run 2,.hop (.int .i64 k2) O,.run 2] (.fork 31 (.ex fun O1:T AObj=>(.seq [.run 4,.hop (.nilp) O1,.run 4,.keep [2,3]] .fin)) (.ex fun i4:Nat=>(.ex fun i5:Nat=>(.ex fun i6:Nat=>(.seq [.run 6,.hopn (.ptr i4 i5 i6) O (N),.hop (.ptr q 0 0) O,.run 2,.hop (.int .i64 k2) O,.run 2] (.fork 41 (.ex fun i7:Nat=>(.ex fun i8:Nat=>(.ex fun i9:Nat=>(.ex fun s1:AV=>(.ex fun O1:T AObj=>(.ex fun N1:Nat=>(.seq [.run 5,.hopn (.ptr i7 i8 i9) O (N),.hop (.ptr q 0 0) O,.run 2,.hop (sa2) O,.hopn (s1) O1 (N1),.run 9,.keep [0,4,5]] .fin))))))) (.ex fun i7:Nat=>(.ex fun i8:Nat=>(.ex fun i9:Nat=>(.ex fun O1:T AObj=>(.ex fun s1:AV=>(.ex fun O2:T AObj=>(.ex fun N1:Nat=>(.seq [.run 5,.hopn (.ptr i7 i8 i9) O (N),.hop (.ptr q 0 0) O,.hopn (.slc N 0 0 1 1) O1 (N+1),.hopn (s1) O2 (N1),.run 9,.keep [0,4,5]] .fin)))))))))))))))))) (.seq [.run 13,.keep [4,6,7]] .fin)))) ((zpn sa j sl rest O N G)):=by kernel_rfl
theorem znk:(∃ (z1:Int),(lN O N G 33 sl z1)∧((decide (j<z1))=true→(K (Wunc j 0 sl sl2 rest O N G)))∧((decide (j<z1))=false→(K (Wund sl2 rest O N G))))=OT f0 R keep K (.ex fun z1:Int=>(.seq [.run 5,.hopn (.int .i64 z1) O (N),.run 2] (.fork 61 (.seq [.run 11,.keep [4,6,7,8]] .fin) (.seq [.run 2,.keep [6]] .fin)))) ((zpe j sl sl2 rest O N G)):=by kernel_rfl
theorem zmI:(∃ (z1:Int),(lN O N G 33 sl2 z1)∧((decide (j2<z1))=true→(∃ (i1:Nat) (i2:Nat) (i3:Nat) (s1:AV) (i4:Nat) (i5:Nat) (i6:Nat) (s2:AV),(iX 33 sl2 j2 i1 i2 i3)∧(lR O N G i1 i2 i3 s1)∧(iX 33 sl j i4 i5 i6)∧(lR O N G i4 i5 i6 s2)∧K (AM.mk (enF 48 [s1]) ((zm5 j j2 sl sl2 i1 i2 i3 i4 i5 i6 s1 s2 z1)::rest) ⟨O,N,G⟩)))∧((decide (j2<z1))=false→(K (Wune j j2 sl sl2 rest O N G))))=OT f0 R keep K (.ex fun z1:Int=>(.seq [.run 5,.hopn (.int .i64 z1) O (N),.run 2] (.fork 68 (.ex fun i1:Nat=>(.ex fun i2:Nat=>(.ex fun i3:Nat=>(.ex fun s1:AV=>(.ex fun i4:Nat=>(.ex fun i5:Nat=>(.ex fun i6:Nat=>(.ex fun s2:AV=>(.seq [.run 2,.hopn (.ptr i1 i2 i3) O (N),.hop (s1) O,.run 2,.hopn (.ptr i4 i5 i6) O (N),.hop (s2) O,.run 1] .fin))))))))) (.seq [.run 15,.keep [4,6,7,8]] .fin)))) ((Wunc j j2 sl sl2 rest O N G)):=by kernel_rfl
theorem ziP:((True)∧(lR O N G i4c i5c i6c s2c)∧(okD 300 s2c=true)∧K (AM.mk (enF 48 [s2c]) ((zel j j2 sl sl2 lrq0 i1c i2c i3c i4c i5c i6c s1c s2c z1c)::rest) ⟨O,N,G⟩))=OT f0 R keep K (.seq [.hret [.nilp],.run 1] .fin) ((AM.mk (RF 48 146 (tX tZ (tY (.str lrq0))) td) ((zm5 j j2 sl sl2 i1c i2c i3c i4c i5c i6c s1c s2c z1c)::rest) ⟨O,N,G⟩)):=by kernel_rfl
theorem zdV:(K (AM.mk (enF 64 [.str lrq0,.str lrq1]) ((jR j j2 sl sl2 lrq0 lrq1 i1c i2c i3c i4c i5c i6c s1c s2c z1c)::rest) ⟨O,N,G⟩))=OT f0 R keep K (.seq [.run 2] .fin) ((AM.mk (RF 48 146 (tX tZ (tY (.str lrq1))) td) ((zel j j2 sl sl2 lrq0 i1c i2c i3c i4c i5c i6c s1c s2c z1c)::rest) ⟨O,N,G⟩)):=by kernel_rfl
theorem zar:(((blq2)=true→(K (Wunc j (IntKind.i64.wrap (j2+(1:Int))) sl sl2 rest O N G)))∧((blq2)=false→(K (Wune j j2 sl sl2 rest O N G))))=OT f0 R keep K (.seq [.run 3] (.fork 80 (.seq [.run 10,.keep [4,6,7,8]] .fin) (.seq [.run 2,.keep [4,6,7,8]] .fin))) ((AM.mk (RF 64 37 (tX tZ (tX (tY (.bool blq2)) tZ)) td) ((jR j j2 sl sl2 lrq0 lrq1 i1c i2c i3c i4c i5c i6c s1c s2c z1c)::rest) ⟨O,N,G⟩)):=by kernel_rfl
theorem znd:(∃ (z1:Int),(lN O N G 33 sl2 z1)∧((decide (j2<z1))=true→(∃ (i1:Nat) (i2:Nat) (i3:Nat) (s1:AV) (i4:Nat) (i5:Nat) (i6:Nat) (s2:AV),(iX 33 sl2 j2 i1 i2 i3)∧(lR O N G i1 i2 i3 s1)∧(iX 33 sl j i4 i5 i6)∧(lR O N G i4 i5 i6 s2)∧K (AM.mk (enF 48 [s1]) ((znB j j2 sl sl2 i1 i2 i3 i4 i5 i6 s1 s2 z1)::rest) ⟨O,N,G⟩)))∧((decide (j2<z1))=false→(K (Wunf j j2 sl sl2 rest O N G))))=OT f0 R keep K (.ex fun z1:Int=>(.seq [.run 5,.hopn (.int .i64 z1) O (N),.run 2] (.fork 87 (.ex fun i1:Nat=>(.ex fun i2:Nat=>(.ex fun i3:Nat=>(.ex fun s1:AV=>(.ex fun i4:Nat=>(.ex fun i5:Nat=>(.ex fun i6:Nat=>(.ex fun s2:AV=>(.seq [.run 2,.hopn (.ptr i1 i2 i3) O (N),.hop (s1) O,.run 2,.hopn (.ptr i4 i5 i6) O (N),.hop (s2) O,.run 1] .fin))))))))) (.seq [.run 15,.keep [4,6,7,8]] .fin)))) ((Wune j j2 sl sl2 rest O N G)):=by kernel_rfl
theorem ziV:((True)∧(lR O N G i4c i5c i6c s2c)∧(okD 300 s2c=true)∧K (AM.mk (enF 48 [s2c]) ((zfp j j2 sl sl2 lrq0 i1c i2c i3c i4c i5c i6c s1c s2c z1c)::rest) ⟨O,N,G⟩))=OT f0 R keep K (.seq [.hret [.nilp],.run 1] .fin) ((AM.mk (RF 48 146 (tX tZ (tY (.str lrq0))) td) ((znB j j2 sl sl2 i1c i2c i3c i4c i5c i6c s1c s2c z1c)::rest) ⟨O,N,G⟩)):=by kernel_rfl
theorem zc2:((((lrq0==lrq1))=true→(K (zpe (IntKind.i64.wrap (j+(1:Int))) sl sl2 rest O N G)))∧(((lrq0==lrq1))=false→(K (Wunf j j2 sl sl2 rest O N G))))=OT f0 R keep K (.seq [.run 4] (.fork 99 (.seq [.run 8,.keep [4,6,7]] .fin) (.seq [.run 2,.keep [4,6,7,8]] .fin))) ((AM.mk (RF 48 146 (tX tZ (tY (.str lrq1))) td) ((zfp j j2 sl sl2 lrq0 i1c i2c i3c i4c i5c i6c s1c s2c z1c)::rest) ⟨O,N,G⟩)):=by kernel_rfl
theorem zpF:(∃ (s1:AV) (s2:AV) (O1:T AObj) (N1:Nat) (i1:Nat) (i2:Nat) (i3:Nat) (s3:AV) (O2:T AObj) (s4:AV) (O3:T AObj) (N2:Nat) (s5:AV) (s6:AV) (O4:T AObj) (N3:Nat),(xD P (⟨O,N,G⟩) (33) (sl2) (none) ((some j2)) (none)=(some s1))∧(zf P (⟨O,N,G⟩) (Builtin.append) ((some 33)) ((some 33)) ([.nils 0 0,s1])=(some (.val s2 ⟨O1,N1,G⟩)))∧(iX 33 sl j i1 i2 i3)∧(lR O1 N1 G i1 i2 i3 s3)∧(zd P (⟨O1,N1,G⟩) (33) (1) ([(0,s3)])=(some (.slc N1 0 0 1 1,⟨O2,N1+1,G⟩)))∧(zf P (⟨O2,N1+1,G⟩) (Builtin.append) ((some 33)) ((some 33)) ([s2,.slc N1 0 0 1 1])=(some (.val s4 ⟨O3,N2,G⟩)))∧(xD P (⟨O3,N2,G⟩) (33) (sl2) ((some j2)) (none) (none)=(some s5))∧(zf P (⟨O3,N2,G⟩) (Builtin.append) ((some 33)) ((some 33)) ([s4,s5])=(some (.val s6 ⟨O4,N3,G⟩)))∧K (zpe (IntKind.i64.wrap (j+(1:Int))) sl s6 rest O4 N3 G))=OT f0 R keep K (.ex fun s1:AV=>(.ex fun s2:AV=>(.ex fun O1:T AObj=>(.ex fun N1:Nat=>(.ex fun i1:Nat=>(.ex fun i2:Nat=>(.ex fun i3:Nat=>(.ex fun s3:AV=>(.ex fun O2:T AObj=>(.ex fun s4:AV=>(.ex fun O3:T AObj=>(.ex fun N2:Nat=>(.ex fun s5:AV=>(.ex fun s6:AV=>(.ex fun O4:T AObj=>(.ex fun N3:Nat=>(.seq [.run 9,.hop (s1) O,.hopn (s2) O1 (N1),.run 7,.hopn (.ptr i1 i2 i3) O1 (N1),.hop (s3) O1,.hopn (.slc N1 0 0 1 1) O2 (N1+1),.hopn (s4) O3 (N2),.run 6,.hop (s5) O3,.hopn (s6) O4 (N3),.run 9,.keep [4,6,7]] .fin))))))))))))))))) ((Wunf j j2 sl sl2 rest O N G)):=by kernel_rfl
theorem zny:(∃ (z1:Int),(lN O N G 33 sl2 z1)∧(((z1==(1:Int)))=true→(∃ (i1:Nat) (i2:Nat) (i3:Nat) (s1:AV),(iX 33 sl2 0 i1 i2 i3)∧(lR O N G i1 i2 i3 s1)∧K (AM.mk (RF 26 129 (tX (tX (tY (.int .i64 0)) tZ) (tY s1)) [.code (cd P 26 [1,0,1,0,1]),.code (cd P 26 [1,1,1,1,1,1,1])]) rest ⟨O,N,G⟩)))∧(((z1==(1:Int)))=false→(∃ (O1:T AObj),(vl P (44) ([(0,.int .i64 9),(3,sl2)])=(some (.agg [.int .i64 9,.str [],.nils 0 0,sl2,.nilp])))∧((Nat.beq (5) (AV.agg [AV.int IntKind.i64 (Int.ofNat (9)),AV.str [],AV.nils (0) (0),sl2,AV.nilp]).cells.length&&(AV.agg [AV.int IntKind.i64 (Int.ofNat (9)),AV.str [],AV.nils (0) (0),sl2,AV.nilp]).cells.all AV.one)=true∧T.set (some (AObj.cells (ze T.leaf 0 (AV.agg [AV.int IntKind.i64 (Int.ofNat (9)),AV.str [],AV.nils (0) (0),sl2,AV.nilp]).cells) (AV.agg [AV.int IntKind.i64 (Int.ofNat (9)),AV.str [],AV.nils (0) (0),sl2,AV.nilp]).cells.length 44 0 0 1 0 false T.leaf)) (⟨O,N,G⟩:AHeap).objs N=O1)∧K (AM.mk (enF 65 [.ptr N 0 0]) ((znN N)::rest) ⟨O1,N+1,G⟩))))=OT f0 R keep K (.ex fun z1:Int=>(.seq [.run 4,.hopn (.int .i64 z1) O (N),.run 2] (.fork 119 (.ex fun i1:Nat=>(.ex fun i2:Nat=>(.ex fun i3:Nat=>(.ex fun s1:AV=>(.seq [.run 4,.hopn (.ptr i1 i2 i3) O (N),.hop (s1) O,.run 4,.keep [2,3]] .fin))))) (.ex fun O1:T AObj=>(.seq [.run 5,.hopn (.agg [.int .i64 9,.str [],.nils 0 0,sl2,.nilp]) O (N),.hopn (.nilp) O1 (N),.keep [125],.run 1] .fin))))) ((Wund sl2 rest O N G)):=by kernel_rfl
theorem zcE:(K (AM.mk (RF 26 129 (tX (tX (tY (.int .i64 crq0)) tZ) (tY prq0)) [.code (cd P (26:FuncId) [1,0,1,0,1])]) rest ⟨O,N,G⟩))=OT f0 R keep K (.seq [.run 7,.keep [2,3]] .fin) ((AM.mk (RF 65 8 (tX (tX (tY (.int .i64 crq0)) tZ) (tY prq0)) td) ((znN Nc)::rest) ⟨O,N,G⟩)):=by kernel_rfl
end
variable {O O':T AObj} {N:Nat} {G:T (T AV)}
theorem bld9 {s:AV}(h:AV.one s=true):vl P 44 [(0,.int .i64 9),(3,s)]=some (.agg [.int .i64 9,.str [],.nils 0 0,s,.nilp]):=by
 cases s <;> first | (cases h; done) | kernel_rfl
theorem zjG {w z:Ty}(h:okT w=true∧cnt w≤60)(hz:z∈jL w):okT z=true∧cnt z≤60:=by
 unfold jL at hz
 split at hz
 · cases w with
   | no=>cases hz
   | mk k nm ns aas r =>
    have hz':z∈aas:=hz
    have:=zk hz'
    have h2:=h.2
    rw [zT] at h2
    exact ⟨(zP h.1).2.1 z hz',by omega⟩
 · rw [List.mem_singleton] at hz
   rw [hz]
   exact h
theorem zgP {ts:List Ty}{ps:List (Option Nat)}{sa:AV}{hi:Nat}{mk:Nat→Prop}(hs:SV O 1 pE 0 hi ps sa)(hl:ps.length=ts.length)(hm:ts.length<10000)(ht:∀ (j:Nat) (x:Ty) (p:Option Nat),ts[j]?=some x→ps[j]?=some p→Tra O hi mk x p)(hN:hi≤N)(hmN:∀ j,mk j→j<N){keep:Nat}{f0:FuncId}{Q:AV→AHeap→Prop}{rest:List AFrame}
 (hK:∀ O' N' td p',Ext O N O' N'→Tra O' N' mk (zfI ts).2 p'→Goal P keep f0 Q (AM.mk (RF 26 129 (tX (tX (tY (.int .i64 (zfI ts).1)) tZ) (tY (pv p'))) td) rest ⟨O',N',G⟩)):Goal P keep f0 Q (AM.mk (enF 26 [sa]) rest ⟨O,N,G⟩):=by
 have bad:zfI ts=(2,.no)→∀ O' N' td,Ext O N O' N'→Goal P keep f0 Q (AM.mk (RF 26 129 (tX (tX (tY (.int .i64 2)) tZ) (tY .nilp)) td) rest ⟨O',N',G⟩):=fun e O' N' td ex=>by
  have:=hK O' N' td none ex (by rw [e]; exact Tra.nil)
  rw [e] at this
  exact this
 refine ot t_uni ⟨_,hs.len pSl _ _,fun hc30=>?_,fun hc30=>?_⟩
 ·
  exact bad (by unfold zfI; rw [if_neg (fun h=>h.1 (List.eq_nil_of_length_eq_zero (by have:=eq_of_beq hc30; omega)))]) O N _ Ext.refl
 ·
  have hne:ts≠[]:=fun h=>by
   have:=beq_eq_false_iff_ne.1 hc30
   rw [hl,h] at this
   exact this rfl
  refine zjm hs hl (by omega) (fun j x p a b=>(ht j x p a b).tr) hN fun O1 N1 td1 ex1=>?_
  have nn1:=ex1.1
  refine ot zk0 ⟨fun hc18=>?_,fun hc18=>?_⟩
  ·
   exact bad (by unfold zfI; rw [if_neg (fun h=>by rw [h.2] at hc18; cases hc18)]) O1 N1 _ ex1
  ·
   have hok:ts.all (fun x=>chk x==0)=true:=by simpa using hc18
   have oks:∀ z∈ts,okT z=true∧cnt z≤60:=fun z hz=>tp.chk_ok (by simpa using List.all_eq_true.1 hok z hz)
   have stD:∀ (os:List Ty) (rs:List (Option Nat)) (O2:T AObj) (N2:Nat) (sl2:AV),Ext O N O2 N2→SV O2 1 pE N N2 rs sl2→rs.length=os.length→(∀ (j:Nat) (x:Ty) (p:Option Nat),os[j]?=some x→rs[j]?=some p→Tra O hi mk x p)→os.length<1000000→(∀ z∈os,okT z=true∧cnt z≤60)→zfI ts=zoo os→Goal P keep f0 Q (Wund sl2 rest O2 N2 G):=by
    intro os rs O2 N2 sl2 ex vo hrl hr hol hos eU
    have nn:=ex.1
    by_cases h1:os.length=1
    · have hd1:(((os.length:Nat):Int)==(1:Int))=true:=by rw [h1]; rfl
      obtain ⟨z,hz0,_⟩:=nth (l:=os) (j:=0) (by omega)
      obtain ⟨rp,hz,_⟩:=nth (l:=rs) (j:=0) (by omega)
      have e3:zfI ts=(0,z):=by
       rw [eU]
       unfold zoo
       rw [if_pos h1]
       cases os with
       | nil=>simp at h1
       | cons w l=>simp at hz0; rw [hz0]; rfl
      have:=fun td=>hK O2 N2 td rp ex (by rw [e3]; exact (hr 0 z rp hz0 hz).same (fun i h1 _=>ex.2 i (by omega)) (by omega))
      rw [e3] at this
      obtain ⟨i1v,i2v,i3v,loI,hiI,eI,rdI,_⟩:=vo.at pSl pEn hz
      refine ot zny ⟨_,vo.lenE pSl hrl _ _,fkt (hd1) ?_⟩
      exact ⟨_,_,_,(pv rp),eI,rdI.load rfl _ _,this _⟩
    · have hd1:(((os.length:Nat):Int)==(1:Int))=false:=beq_eq_false_iff_ne.2 (by omega)
      obtain ⟨OB,eb,bB,fB⟩:=Obj.box (t:=44) [.int .i64 9,.str [],.nils 0 0,sl2,.nilp] (by simp only [List.all_cons,List.all_nil,Bool.and_true,vo.one]; rfl) O2 N2 5 rfl
      refine ot zny ⟨_,vo.lenE pSl hrl _ _,fkf (hd1) ?_⟩
      refine ⟨_,bld9 vo.one,eb,?_⟩
      have node:Tra OB (N2+1) mk (.mk 9 [] [] os .no) (some N2):=Tra.node (by omega) (fun h=>by have:=hmN _ h; omega) bB SV.nil (fun h=>absurd rfl h) (vo.keep (fun j _ hj=>fB j (by omega)) (Nat.zero_le _) (Nat.le_succ _)) (fun h hA=>by have:=(vo.sid_lt h).1; have:=hmN _ hA; omega) hrl (by omega) (by decide) (fun j x p a b=>(hr j x p a b).same (fun i h1 _=>(fB i (by omega)).trans (ex.2 i (by omega))) (by omega)) Tra.nil
      have exB:Ext O N OB (N2+1):=ex.trans (Ext.new fB)
      refine zlm (p:=some N2) node.tr (fun h td=>?_) (fun h td=>?_)
      · have e3:zfI ts=(3,.no):=by rw [eU]; unfold zoo zmq; rw [if_neg h1,if_pos h]
        have:=fun td=>hK OB (N2+1) td none exB (by rw [e3]; exact Tra.nil)
        rw [e3] at this
        exact ot zcE (this _)
      · have e3:zfI ts=(0,.mk 9 [] [] os .no):=by rw [eU]; unfold zoo zmq; rw [if_neg h1,if_neg (by omega)]
        have:=fun td=>hK OB (N2+1) td (some N2) exB (by rw [e3]; exact node)
        rw [e3] at this
        exact ot zcE (this _)
   have stB:∀ (OF:T AObj) (NF:Nat) (fs:List Ty) (qs:List (Option Nat)) (sl:AV),Ext O N OF NF→SV OF 1 pE N NF qs sl→qs.length=fs.length→fs=ts.flatMap jL→(∀ z∈ts,kd z≠1)→(∀ (j:Nat) (x:Ty) (p:Option Nat),fs[j]?=some x→qs[j]?=some p→Tra O hi mk x p)→fs.length≤60*ts.length→Goal P keep f0 Q (zpe 0 sl (.nils 0 0) rest OF NF G):=by
    intro OF NF fs qs sl exF vF hq hfs hany hrF hfl
    have okf:∀ z∈fs,okT z=true∧cnt z≤60:=fun z hz=>by
     rw [hfs,List.mem_flatMap] at hz
     obtain ⟨w,hw,hz⟩:=hz
     exact zjG (oks w hw) hz
    have eU:zfI ts=zoo (ziC fs []):=by
     unfold zfI
     rw [if_pos ⟨hne,hok⟩,if_neg (fun h=>by obtain ⟨w,hw,h⟩:=List.any_eq_true.1 h; exact hany w hw (by simpa using h)),hfs]
    have loopB:∀ (k i:Nat) (O2:T AObj) (N2:Nat) (os:List Ty) (rs:List (Option Nat)) (sl2:AV),i+k=fs.length→Ext OF NF O2 N2→SV O2 1 pE N N2 rs sl2→rs.length=os.length→(∀ (j:Nat) (x:Ty) (p:Option Nat),os[j]?=some x→rs[j]?=some p→Tra O hi mk x p)→os.length≤i→(∀ z∈os,okT z=true∧cnt z≤60)→ziC fs []=ziC (fs.drop i) os→Goal P keep f0 Q (zpe ((i:Nat):Int) sl sl2 rest O2 N2 G):=by
     intro k
     induction k with
     | zero =>
      intro i O2 N2 os rs sl2 hk exB vo hrl hr hil hos hv
      have nnB:=exB.1
      have nnF:=exF.1
      have ex:Ext O N O2 N2:=exF.trans exB
      have vf:=vF.keep (O':=O2) (fun j _ hj=>exB.2 j hj) (Nat.le_refl _) nnB
      rw [List.drop_of_length_le (by omega),zmo] at hv
      rw [hv] at eU
      have nx:=stD os rs O2 N2 sl2 ex vo hrl hr (by omega) hos eU
      refine ot znk ⟨_,vf.lenE pSl hq _ _,fkf (decide_eq_false (by omega)) ?_⟩
      exact nx
     | succ k ih0 =>
      intro i O2 N2 os rs sl2 hk exB vo hrl hr hil hos hv
      have nnB:=exB.1
      have nnF:=exF.1
      have ex:Ext O N O2 N2:=exF.trans exB
      have vf:=vF.keep (O':=O2) (fun j _ hj=>exB.2 j hj) (Nat.le_refl _) nnB
      have ih:=fun i=>fun O3 N3 os rs sl2 h1 (h2:Ext O2 N2 O3 N3)=>ih0 i O3 N3 os rs sl2 h1 (exB.trans h2)
      obtain ⟨x,hx,hxm⟩:=nth (l:=fs) (j:=i) (by omega)
      obtain ⟨y,hy,_⟩:=nth (l:=qs) (j:=i) (by omega)
      have okx:=okf x hxm
      have tx0:=hrF i x y hx hy
      rw [zx hx,zeF] at hv
      have after:∀ (a:Nat) (O3:T AObj) (N3:Nat),Ext O2 N2 O3 N3→zdE (fun z=>Op.bytesLess (wr z) (wr x)) os=a→Goal P keep f0 Q (Wune ((i:Nat):Int) ((a:Nat):Int) sl sl2 rest O3 N3 G):=by
       intro a O3 N3 ex3 hua
       have nn3:=ex3.1
       have hal:a≤os.length:=hua▸zdJ
       rw [hua] at hv
       have vo3:=vo.keep (O':=O3) (fun j _ hj=>ex3.2 j (by omega)) (Nat.le_refl _) (Nat.le_refl _)
       have vf3:=vf.keep (O':=O3) (fun j _ hj=>ex3.2 j (by omega)) (Nat.le_refl _) (Nat.le_refl _)
       have low3:∀ j,j<N→O3.get j=O.get j:=fun j hj=>(ex3.2 j (by omega)).trans (ex.2 j hj)
       have insd:∀ (O3:T AObj) (N3:Nat),Ext O2 N2 O3 N3→(os[a]?).map wr≠some (wr x)→Goal P keep f0 Q (Wunf ((i:Nat):Int) ((a:Nat):Int) sl sl2 rest O3 N3 G):=by
        intro O3 N3 ex3 hne
        have nn3:=ex3.1
        have vo3:=vo.keep (O':=O3) (fun j _ hj=>ex3.2 j (by omega)) (Nat.le_refl _) (Nat.le_refl _)
        have vf3:=vf.keep (O':=O3) (fun j _ hj=>ex3.2 j (by omega)) (Nat.le_refl _) (Nat.le_refl _)
        rw [if_neg hne] at hv
        obtain ⟨r1,r2,r3,lor,hir,eR,rdR,_⟩:=vf3.at pSl pEn hy
        obtain ⟨s1,O4,N4,s2,O5,O6,N6,s3,s4,O7,N7,s5,a1,a2,a3,a4,a5,a6,g6,m1,m2,m3,f3,f5,f6⟩:=zbq pSl pEn vo3 (by omega) (a:=a) (by omega) y (zpI y) (by omega) G
        have nx:=ih (i+1) O7 N7 (ins a x os) (ins a y rs) s5 (by omega) ⟨by omega,fun j hj=>(f6 j (by omega)).trans (ex3.2 j (by omega))⟩ ((g6.sv pEn).keep (fun _ _ _=>rfl) (by omega) (Nat.le_refl _)) (by rw [qf (by omega),qf (by omega)]; omega) (zkU hrl hal tx0 hr) (by rw [qf hal]; omega) (fun z hz=>(zd0.1 hz).elim (fun h=>h▸okx) (hos z)) hv
        rw [← zC (i:=i) (by omega)] at nx
        exact ot zpF ⟨_,_,_,_,_,_,_,_,_,_,_,_,_,_,_,_,a1,a2,eR,(rdR.same (f3 _ (by omega))).load rfl _ _,a3,a4,a5,a6,nx⟩
       by_cases hla:a<os.length
       · obtain ⟨z,hz,hzm⟩:=nth (l:=os) (j:=a) hla
         obtain ⟨zp,hzp,_⟩:=nth (l:=rs) (j:=a) (by omega)
         refine ot znd ⟨_,vo3.lenE pSl hrl _ _,fkt (decide_eq_true (by omega)) ?_⟩
         obtain ⟨i1v,i2v,i3v,lo8,hi8,eA8,rd8,_⟩:=vo3.at pSl pEn hzp
         obtain ⟨i4v,i5v,i6v,lo9,hi9,eA9,rd9,_⟩:=vf3.at pSl pEn hy
         refine ⟨i1v,i2v,i3v,(pv zp),i4v,i5v,i6v,(pv y),eA8,rd8.load rfl _ _,eA9,rd9.load rfl _ _,?_⟩
         have rdF:=rd9
         have tz:=(hr _ _ _ hz hzp).tr.same (O':=O3) (fun j hj=>low3 j (by omega)) (Nat.le_refl _)
         refine vQ (cnt z) z zp _ O3 N3 ⟨Nat.le_refl _,(hos z hzm).2⟩ (hos z hzm).1 tz (by omega) fun O4 N4 td4 ex4=>?_
         have nn4:=ex4.1
         have ty4:=tx0.tr.same (O':=O4) (fun j hj=>(ex4.2 j (by omega)).trans (low3 j (by omega))) (Nat.le_refl _)
         refine ot ziV ⟨trivial,(rdF.same (ex4.2 _ (by omega))).load rfl _ _,zeE _,?_⟩
         refine vQ (cnt x) x y _ O4 N4 ⟨Nat.le_refl _,okx.2⟩ okx.1 ty4 (by omega) fun O5 N5 td5 ex5=>?_
         have nn5:=ex5.1
         refine ot zc2 ⟨fun hc11=>?_,fun hc11=>?_⟩
         ·
          have he:=eq_of_beq hc11
          rw [if_pos (by rw [hz,Option.map_some,he])] at hv
          have ex5':=ex3.trans (ex4.trans ex5)
          have nx:=ih (i+1) O5 N5 os rs sl2 (by omega) ex5' (vo.keep (fun j _ hj=>ex5'.2 j (by omega)) (Nat.le_refl _) (by omega)) hrl hr (by omega) hos hv
          rw [← zC (i:=i) (by omega)] at nx
          exact nx
         ·
          have he:=beq_eq_false_iff_ne.1 hc11
          exact insd O5 N5 (ex3.trans (ex4.trans ex5)) (by rw [hz,Option.map_some]; intro h; injection h with h; exact he h)
       · skip
         refine ot znd ⟨_,vo3.lenE pSl hrl _ _,fkf (decide_eq_false (by omega)) ?_⟩
         exact insd O3 N3 ex3 (by rw [List.getElem?_eq_none (by omega)]; simp)
      have inner:∀ (k' a:Nat) (O3:T AObj) (N3:Nat),a+k'=os.length→Ext O2 N2 O3 N3→(∀ k,k<a→∃ z,os[k]?=some z∧Op.bytesLess (wr z) (wr x)=true)→Goal P keep f0 Q (Wunc ((i:Nat):Int) ((a:Nat):Int) sl sl2 rest O3 N3 G):=by
       intro k'
       induction k' with
       | zero =>
        intro a O3 N3 hk' ex3 hbel
        have nn3:=ex3.1
        have vo3:=vo.keep (O':=O3) (fun j _ hj=>ex3.2 j (by omega)) (Nat.le_refl _) (Nat.le_refl _)
        have nx:=after a O3 N3 ex3 (zba hbel (.inl (by omega)))
        refine ot zmI ⟨_,vo3.lenE pSl hrl _ _,fkf (decide_eq_false (by omega)) ?_⟩
        exact nx
       | succ k' ih' =>
        intro a O3 N3 hk' ex3 hbel
        have nn3:=ex3.1
        have vo3:=vo.keep (O':=O3) (fun j _ hj=>ex3.2 j (by omega)) (Nat.le_refl _) (Nat.le_refl _)
        have vf3:=vf.keep (O':=O3) (fun j _ hj=>ex3.2 j (by omega)) (Nat.le_refl _) (Nat.le_refl _)
        have low3:∀ j,j<N→O3.get j=O.get j:=fun j hj=>(ex3.2 j (by omega)).trans (ex.2 j hj)
        obtain ⟨z,hz,hzm⟩:=nth (l:=os) (j:=a) (by omega)
        obtain ⟨zp,hzp,_⟩:=nth (l:=rs) (j:=a) (by omega)
        refine ot zmI ⟨_,vo3.lenE pSl hrl _ _,fkt (decide_eq_true (by omega)) ?_⟩
        obtain ⟨i1v,i2v,i3v,lo2,hi2,eA2,rd2,_⟩:=vo3.at pSl pEn hzp
        obtain ⟨i4v,i5v,i6v,lo3,hi3,eA3,rd3,_⟩:=vf3.at pSl pEn hy
        refine ⟨i1v,i2v,i3v,(pv zp),i4v,i5v,i6v,(pv y),eA2,rd2.load rfl _ _,eA3,rd3.load rfl _ _,?_⟩
        have rdF:=rd3
        have tz:=(hr _ _ _ hz hzp).tr.same (O':=O3) (fun j hj=>low3 j (by omega)) (Nat.le_refl _)
        refine vQ (cnt z) z zp _ O3 N3 ⟨Nat.le_refl _,(hos z hzm).2⟩ (hos z hzm).1 tz (by omega) fun O4 N4 td4 ex4=>?_
        have nn4:=ex4.1
        have ty4:=tx0.tr.same (O':=O4) (fun j hj=>(ex4.2 j (by omega)).trans (low3 j (by omega))) (Nat.le_refl _)
        refine ot ziP ⟨trivial,(rdF.same (ex4.2 _ (by omega))).load rfl _ _,zeE _,?_⟩
        refine vQ (cnt x) x y _ O4 N4 ⟨Nat.le_refl _,okx.2⟩ okx.1 ty4 (by omega) fun O5 N5 td5 ex5=>?_
        have nn5:=ex5.1
        refine ot zdV ?_
        have w1:=yh (hos z hzm).1 (hos z hzm).2
        have w2:=yh okx.1 okx.2
        refine zhO (wr z) (wr x) (by omega) (by omega) fun td6=>?_
        refine ot zar ⟨fun hc5=>?_,fun hc5=>?_⟩
        ·
         have nx:=ih' (a+1) O5 N5 (by omega) (ex3.trans (ex4.trans ex5)) (fun k hk=>by
          by_cases hka:k=a
          · exact ⟨z,hka▸hz,hc5⟩
          · exact hbel k (by omega))
         rw [← zC (i:=a) (by omega)] at nx
         exact nx
        ·
         exact after a O5 N5 (ex3.trans (ex4.trans ex5)) (zba hbel (.inr ⟨z,hz,hc5⟩))
      have nx:=inner os.length 0 O2 N2 (Nat.zero_add _) Ext.refl (fun k h=>absurd h (Nat.not_lt_zero _))
      refine ot znk ⟨_,vf.lenE pSl hq _ _,fkt (decide_eq_true (by omega)) ?_⟩
      exact nx
    exact loopB fs.length 0 OF NF [] [] (.nils 0 0) (Nat.zero_add _) Ext.refl SV.nil rfl (fun j x p h=>by simp at h) (Nat.zero_le _) (fun z h=>by cases h) (by rw [List.drop_zero])
   have loopA:∀ (k i:Nat) (O2:T AObj) (N2:Nat) (fs:List Ty) (qs:List (Option Nat)) (sl:AV),i+k=ts.length→Ext O N O2 N2→GV O2 23 1 pE N N2 qs sl→qs.length=fs.length→fs=(ts.take i).flatMap jL→(∀ z∈ts.take i,kd z≠1) →
    (∀ (j:Nat) (x:Ty) (p:Option Nat),fs[j]?=some x→qs[j]?=some p→Tra O hi mk x p)→fs.length≤60*i→Goal P keep f0 Q (zpn sa ((i:Nat):Int) sl rest O2 N2 G):=by
    intro k
    induction k with
    | zero =>
     intro i O2 N2 fs qs sl hk ex gv hq hfs hany hr hfl
     have nn:=ex.1
     have hs2:=hs.keep (O':=O2) (fun j _ hj=>ex.2 j (by omega)) (Nat.le_refl 0) (Nat.le_refl hi)
     have hall:ts.take i=ts:=List.take_of_length_le (by omega)
     rw [hall] at hfs hany
     have nx:=stB O2 N2 fs qs sl ex (gv.sv pEn) hq hfs hany hr (by omega)
     refine ot (zmH (q:=0) (k2:=0) (sa2:=.nilp)) ⟨_,hs2.lenE pSl hl _ _,fkf (decide_eq_false (by omega)) ?_⟩
     exact nx
    | succ k ih =>
     intro i O2 N2 fs qs sl hk ex gv hq hfs hany hr hfl
     have nn:=ex.1
     have hNN:N≤N2:=nn
     have hs2:=hs.keep (O':=O2) (fun j _ hj=>ex.2 j (by omega)) (Nat.le_refl 0) (Nat.le_refl hi)
     obtain ⟨x,hx,hxm⟩:=nth (l:=ts) (j:=i) (by omega)
     obtain ⟨y,hy,_⟩:=nth (l:=ps) (j:=i) (by omega)
     have tx0:=ht i x y hx hy
     have okx:=oks x hxm
     cases x with
     | no=>have:=okx.1; rw [xL] at this; cases this
     | mk kx nmx nsx asx rx =>
      obtain ⟨id,snx,sax,psx,qx,rfl,ix,imk,obx0,svn0,mn0,svx0,mx0,lx,lx6,ln6,rx8,tr9⟩:=Tra.inv tx0
      have obx:=obx0.same (ex.2 id (by omega))
      have svx:=svx0.keep (O':=O2) (fun j _ hj=>ex.2 j (by omega)) (Nat.le_refl 0) (Nat.le_refl hi)
      have c60:=okx.2
      rw [zT] at c60
      have cl:=zcV (l:=asx) (fun z hz=>zdk ((zP okx.1).2.1 z hz))
      refine ot (zmH (q:=id) (k2:=kx) (sa2:=sax)) ⟨_,hs2.lenE pSl hl _ _,fkt (decide_eq_true (by omega)) ?_⟩
      obtain ⟨i1v,i2v,i3v,lo21,hi21,eA21,rd21,_⟩:=hs2.at pSl pEn hy
      refine ⟨i1v,i2v,i3v,eA21,rd21.load rfl _ _,obx.ld 0 rfl,fun hc22=>?_,fun hc22=>?_⟩
      ·
       obtain ⟨O1v,e23,b23,f23⟩:=Obj.mk (c:=(tW (tW (tY (.nils 0 0)) (.str []) tZ) (.int .i64 1) (tW (tY .nilp) (.nils 0 0) tZ))) (el:=44) [(.int .i64 1),(.str []),(.nils 0 0),(.nils 0 0),.nilp] O2 N2 5 rfl (fun u hu=>by rcases u with _ | _ | _ | _ | _ | u <;> first | rfl | omega)
       have b24:=obx.same (f23 _ (by omega))
       refine ⟨O1v,e23,?_⟩
       have tl:Tra O1v (N2+1) mk (.mk 1 [] [] [] .no) (some N2):=Tra.node (ps:=[]) (q:=none) (by omega) (fun h=>by have:=hmN _ h; omega) b23 SV.nil (fun h=>absurd rfl h) SV.nil (fun h=>absurd rfl h) rfl (by decide) (by decide) (fun j x p h=>by simp at h) Tra.nil
       have e1:zfI ts=(0,.mk 1 [] [] [] .no):=by
        unfold zfI
        rw [if_pos ⟨hne,hok⟩,if_pos (List.any_eq_true.2 ⟨_,hxm,by show (kx==1)=true; exact hc22⟩)]
       have:=fun td=>hK O1v (N2+1) td (some N2) (ex.trans (Ext.new f23)) (by rw [e1]; exact tl)
       rw [e1] at this
       exact this _
      ·
       obtain ⟨i4v,i5v,i6v,lo25,hi25,eA25,rd25,_⟩:=hs2.at pSl pEn hy
       refine ⟨i4v,i5v,i6v,eA25,rd25.load rfl _ _,obx.ld 0 rfl,fun hc26=>?_,fun hc26=>?_⟩
       ·
        obtain ⟨i7v,i8v,i9v,lo27,hi27,eA27,rd27,_⟩:=hs2.at pSl pEn hy
        have hk1:kd (.mk kx nmx nsx asx rx)≠1:=by show ¬ kx=1; simpa using hc22
        have hx9:jL (.mk kx nmx nsx asx rx)=asx:=by unfold jL; rw [if_pos (by show kx=9; simpa using hc26)]; rfl
        obtain ⟨O3,N3,s3,ea,g3,m1,m2,f3,_⟩:=gv.app pSl pEn svx hNN (by rw [lx,hq]; omega) G
        have low3:∀ j,j<N→O3.get j=O2.get j:=fun j hj=>f3 j (by omega) (fun h=>by have:=(gv.sid_lt h).1; omega)
        have nx:=ih (i+1) O3 N3 (fs++asx) (qs++psx) s3 (by omega) ⟨by omega,fun j hj=>(low3 j hj).trans (ex.2 j hj)⟩ g3 (by rw [List.length_append,List.length_append,hq,lx]) (by rw [je hx,List.flatMap_append,← hfs,List.flatMap_cons,hx9]; simp) (fun z hz=>by rw [je hx,List.mem_append,List.mem_singleton] at hz; exact hz.elim (hany z) (fun h=>by rw [h]; exact hk1)) (zcZ hq hr (fun j x p a b=>(rx8 j x p a b))) (by rw [List.length_append]; have:=c60; omega)
        rw [← zC (i:=i) (by omega)] at nx
        exact ⟨i7v,i8v,i9v,_,_,_,eA27,rd27.load rfl _ _,obx.ld 3 rfl,ea,nx⟩
       ·
        obtain ⟨i7v,i8v,i9v,lo28,hi28,eA28,rd28,_⟩:=hs2.at pSl pEn hy
        have hk1:kd (.mk kx nmx nsx asx rx)≠1:=by show ¬ kx=1; simpa using hc22
        have hx9:jL (.mk kx nmx nsx asx rx)=[.mk kx nmx nsx asx rx]:=by unfold jL; rw [if_neg (by show ¬ kx=9; simpa using hc26)]
        obtain ⟨OL,el,vL,_,fL⟩:=wg pEn (some id) O2 N2 G (st:=33) (el:=23) (zpI (some id))
        have gvL:=gv.keep (O':=OL) (fun j h1 h2=>fL j (by omega)) (Nat.le_refl _) (Nat.le_succ N2)
        obtain ⟨O3,N3,s3,ea,g3,m1,m2,f3,_⟩:=gvL.app pSl pEn vL (by omega) (by rw [hq]; simp only [List.length_cons,List.length_nil]; omega) G
        have low3:∀ j,j<N→O3.get j=O2.get j:=fun j hj=>(f3 j (by omega) (fun h=>by have:=(gv.sid_lt h).1; omega)).trans (fL j (by omega))
        have nx:=ih (i+1) O3 N3 (fs++[.mk kx nmx nsx asx rx]) (qs++[some id]) s3 (by omega) ⟨by omega,fun j hj=>(low3 j hj).trans (ex.2 j hj)⟩ g3 (by rw [List.length_append,List.length_append,hq]; rfl) (by rw [je hx,List.flatMap_append,← hfs,List.flatMap_cons,hx9]; simp) (fun z hz=>by rw [je hx,List.mem_append,List.mem_singleton] at hz; exact hz.elim (hany z) (fun h=>by rw [h]; exact hk1)) (zcZ hq hr (fun j x p a b=>by rcases j with _ | j <;> simp at a b; subst a; subst b; exact tx0)) (by rw [List.length_append]; simp only [List.length_cons,List.length_nil]; omega)
        rw [← zC (i:=i) (by omega)] at nx
        exact ⟨i7v,i8v,i9v,_,_,_,_,eA28,rd28.load rfl _ _,el,ea,nx⟩
   exact loopA ts.length 0 O1 N1 [] [] (.nils 0 0) (Nat.zero_add _) ex1 GV.nil rfl rfl (fun z hz=>by simp at hz) (fun j x p h=>by simp at h) (by simp)
end Go.Proofs.Ytcdigdplhlgcaaa.gx
end
section
set_option maxRecDepth 100000
set_option linter.unusedVariables false
set_option linter.unusedSectionVars false
namespace Go.Proofs.Ytcdigdplhlgcaaa.gx
open Go Ev tp
theorem zhd:∀ {ns:List zi} {ts:List Ty} {xs:List zi} {us:List Ty} {r:List zi × List Ty},znb ns ts xs us=some r→xs.length=us.length→r.1.length=r.2.length∧∀ u∈r.2,u∈us∨u∈ts
 | [],ts,xs,us,r,h,hl=>by
  rw [zhi] at h
  cases h
  exact ⟨hl,fun u hu=>.inl hu⟩
 | n::ns,[],xs,us,r,h,hl=>by
  have h':some (xs,us)=some r:=h
  cases h'
  exact ⟨hl,fun u hu=>.inl hu⟩
 | n::ns,t::ts,xs,us,r,h,hl=>by
  rw [zed] at h
  split at h
  · split at h
    · cases h
    · have hu:zdE (fun x=>Op.bytesLess x n) xs≤xs.length:=zdJ
      obtain ⟨h1,h2⟩:=zhd h (by rw [qf hu,qf (by omega),hl])
      refine ⟨h1,fun u hu=>?_⟩
      rcases h2 u hu with h | h
      · rcases zd0.1 h with h | h
        · exact .inr (h▸List.mem_cons_self)
        · exact .inl h
      · exact .inr (List.mem_cons_of_mem _ h)
  · cases h
theorem znR {k:Int}{nm:zi}{ns:List zi}{us:List Ty}(hk:k≠1)(h:∀ u∈us,naT u=true):naT (.mk k nm ns us .no)=true:=by
 simp only [naT,zcX,Bool.and_eq_true,List.all_eq_true,Bool.not_eq_true',beq_eq_false_iff_ne]
 exact ⟨⟨hk,h⟩,trivial⟩
theorem zdy {an:Bool}{ns:List zi}{ts:List Ty}(h:(zfR ns ts).1=0)(na:an=false→∀ x∈ts,naT x=true):MadeT an (zfR ns ts).2:=by
 unfold zfR at h ⊢
 split at h
 · rename_i hc
   rw [if_pos hc]
   split at h
   · cases h
   · rename_i xs us hr
     obtain ⟨h1,h2⟩:=zhd hr rfl
     have h3:∀ u∈us,u∈ts:=fun u hu=>(h2 u hu).elim (fun h=>absurd h List.not_mem_nil) id
     unfold zmq at h ⊢
     split at h
     · cases h
     · rename_i hs
       rw [if_neg hs]
       exact ⟨7,[],xs,us,.no,rfl,Nat.le_of_not_lt hs,fun x hx=>qR (by simpa using List.all_eq_true.1 hc.2 x (h3 x hx)),fun _=>h1,fun h=>absurd h (by decide),fun ha=>znR (by decide) fun u hu=>na ha u (h3 u hu)⟩
 · cases h
theorem zdZ:∀ {fs out:List Ty} {u:Ty},u∈ziC fs out→u∈out∨u∈fs
 | [],out,u,h=>.inl h
 | t::fs,out,u,h=>by
  rw [zeF] at h
  split at h
  · exact (zdZ h).imp_right (List.mem_cons_of_mem _)
  · rcases zdZ h with h | h
    · rcases zd0.1 h with h | h
      · exact .inr (h▸List.mem_cons_self)
      · exact .inl h
    · exact .inr (List.mem_cons_of_mem _ h)
theorem zoj {w z:Ty}(h:naT w=true)(hz:z∈jL w):naT z=true:=by
 unfold jL at hz
 split at hz
 · cases w with
   | no=>cases hz
   | mk k nm ns aas r=>exact (yg h).2.1 z hz
 · rw [List.mem_singleton] at hz
   rw [hz]
   exact h
theorem zc5 {an:Bool}{ts:List Ty}(h:(zfI ts).1=0)(na:an=false→∀ x∈ts,naT x=true):MadeT an (zfI ts).2:=by
 unfold zfI at h ⊢
 split at h
 · rename_i hc
   rw [if_pos hc]
   split at h
   · rename_i ha
     rw [if_pos ha]
     refine MadeT.leaf (by decide) (by decide) fun hf=>?_
     obtain ⟨x,hx,hk⟩:=List.any_eq_true.1 ha
     have:=na hf x hx
     cases x with
     | no=>cases hk
     | mk k nm ns aas r =>
      have hk':k=1:=by
       have h2:(k==1)=true:=hk
       simpa using h2
      exact absurd hk' (yg this).1
   · rename_i ha
     rw [if_neg ha]
     have hm:∀ u∈ziC (ts.flatMap jL) [],(okT u=true∧cnt u≤60)∧(an=false→naT u=true):=fun u hu=>by
      rcases zdZ hu with h | h
      · cases h
      · obtain ⟨w,hw,hz⟩:=List.mem_flatMap.1 h
        exact ⟨zjG (tp.chk_ok (by simpa using List.all_eq_true.1 hc.2 w hw)) hz,fun hf=>zoj (na hf w hw) hz⟩
     revert h hm
     generalize ziC (ts.flatMap jL) []=out
     intro h hm
     unfold zoo at h ⊢
     split at h
     · rename_i h1
       rw [if_pos h1]
       cases out with
       | nil=>cases h1
       | cons u l =>
        have:=hm u List.mem_cons_self
        exact zdh this.1.1 this.1.2 this.2
     · rename_i h1
       rw [if_neg h1]
       unfold zmq at h ⊢
       split at h
       · cases h
       · rename_i hs
         rw [if_neg hs]
         exact ⟨9,[],[],out,.no,rfl,Nat.le_of_not_lt hs,fun x hx=>(hm x hx).1.1,fun h=>absurd h (by decide),fun h=>absurd h (by decide),fun hf=>znR (by decide) fun u hu=>(hm u hu).2 hf⟩
 · cases h
end Go.Proofs.Ytcdigdplhlgcaaa.gx
end
section
set_option maxRecDepth 100000
set_option linter.unusedVariables false
set_option linter.unusedSectionVars false
namespace Go.Proofs.Ytcdigdplhlgcaaa.gx
open Go Ev tp
variable {O O':T AObj} {N:Nat} {G:T (T AV)}
def AvS (A:Nat→Prop) (s:AV) (j:Nat):Prop:=A j∨(s≠.nils 0 0∧j=sid s)
theorem AvS.nil {A:Nat→Prop}{j:Nat}(h:AvS A (.nils 0 0) j):A j:=h.elim id fun h=>absurd rfl h.1
theorem zkW {A:Nat→Prop}{lo:Nat}{ts:List Ty}{ps:List (Option Nat)}{s:AV}{t:Ty}{p:Option Nat}(gv:GV O 23 1 pE lo N ps s)(hlo:lo≤N)(hl:ps.length=ts.length)(hn:ts.length<1000)(hr:∀ (j:Nat) (x:Ty) (p:Option Nat),ts[j]?=some x→ps[j]?=some p→Tra O N (AvS A s) x p)(tx:Tra O N (AvS A s) t p)(G:T (T AV)) :
 ∃ O1 s1 O2 N1,zd P ⟨O,N,G⟩ 33 1 [(0,pv p)]=some (.slc N 0 0 1 1,⟨O1,N+1,G⟩)∧zf P ⟨O1,N+1,G⟩ .append (some 33) (some 33) [s,.slc N 0 0 1 1]=some (.val s1 ⟨O2,N1,G⟩)∧GV O2 23 1 pE lo N1 (ps++[p]) s1∧N≤N1∧(∀ j,j<N→(s≠.nils 0 0→j≠sid s)→O2.get j=O.get j) ∧
  (∀ (j:Nat) (x:Ty) (q:Option Nat),(ts++[t])[j]?=some x→(ps++[p])[j]?=some q→Tra O2 N1 (AvS A s1) x q):=by
 obtain ⟨O1,e1,v1,_,f1⟩:=wg pEn p O N G (st:=33) (el:=23) (zpI p)
 have g1:=gv.keep (O':=O1) (fun j h1 h2=>f1 j (by omega)) (Nat.le_refl _) (Nat.le_succ N)
 obtain ⟨O2,N1,s1,e2,g2,n1,n2,f2,hs⟩:=g1.app pSl pEn v1 (by omega) (by rw [hl]; simp only [List.length_cons,List.length_nil]; omega) G
 have lo2:∀ j,j<N→(s≠.nils 0 0→j≠sid s)→O2.get j=O.get j:=fun j hj hs=>(f2 j (by omega) hs).trans (f1 j (by omega))
 have mv:∀ {x:Ty} {q:Option Nat},Tra O N (AvS A s) x q→Tra O2 N1 (AvS A s1) x q:=fun h =>
  ((h.same (fun j hj hb=>lo2 j hj fun hs hj=>hb (.inr ⟨hs,hj⟩)) (Nat.le_refl _)).imp fun j hj hb=>by
   rcases hb with hb | ⟨h1,h2⟩
   · exact .inl hb
   · rcases hs with h | h | ⟨h3,h⟩
     · exact absurd h h1
     · omega
     · exact .inr ⟨h3,by omega⟩).same (fun _ _ _=>rfl) (by omega)
 exact ⟨O1,s1,O2,N1,e1,e2,g2,by omega,lo2,zcZ hl (fun j x y a b=>mv (hr j x y a b)) (fun j x y a b=>by
  rcases j with _ | j <;> simp at a b
  subst a
  subst b
  exact mv tx)⟩
def abc:List zi:=[[97],[98],[99]]
theorem zlO {id n hi:Nat}(ob:Obj O id [.str [97],.str [98],.str [99]])(hi':id<hi)(hn:n≤3)(N:Nat)(G:T (T AV)):∃ s,xD P ⟨O,N,G⟩ 90 (.ptr id 0 0) none (some ((n:Nat):Int)) none=some s∧SV O 1 sE 0 hi (abc.take n) s:=by
 have rd:Rd O id 0 0 ((abc.take n).flatMap sE):=Rd.ofRow ob (by rcases n with _ | _ | _ | _ | n <;> first | decide | omega) (fun k hk=>by
  rcases n with _ | _ | _ | _ | n
  · exact absurd hk (Nat.not_lt_zero _)
  · rcases k with _ | k <;> first | rfl | (exfalso; simp [abc,sE] at hk; done) | (exfalso; simp [abc,sE] at hk; omega)
  · rcases k with _ | _ | k <;> first | rfl | (exfalso; simp [abc,sE] at hk; done) | (exfalso; simp [abc,sE] at hk; omega)
  · rcases k with _ | _ | _ | k <;> first | rfl | (exfalso; simp [abc,sE] at hk; done) | (exfalso; simp [abc,sE] at hk; omega)
  · omega)
 have hl:(abc.take n).length=n:=by rcases n with _ | _ | _ | _ | n <;> first | rfl | omega
 refine ⟨.slc id 0 0 n 3,?_,.inr (.inl ⟨id,0,0,3,by rw [hl],by rw [hl]; exact hn,Nat.zero_le _,hi',rd⟩)⟩
 rcases n with _ | _ | _ | _ | n
 · kernel_rfl
 · kernel_rfl
 · kernel_rfl
 · kernel_rfl
 · omega
end Go.Proofs.Ytcdigdplhlgcaaa.gx
end
